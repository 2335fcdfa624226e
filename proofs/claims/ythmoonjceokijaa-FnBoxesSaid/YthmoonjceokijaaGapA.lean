/- Chapter 2: the program's boxes of a stack: isFree, gap. -/
import Derived.Test.YthmoonjceokijaaGapP
import Derived.Test.YthmoonjceokijaaStkB
namespace Go.Proofs.Ythmoonjceokijaa
open Go.RowKit
set_option linter.unusedVariables false

theorem ret_pr {a b c d : Value} (h1 : a = c) (h2 : b = d) : Ending.returned (.tuple #[a, b]) = .returned (.tuple #[c, d]) := by rw [h1, h2]
set_option maxRecDepth 100000 in
theorem isFree_any (w : World) (g : Nat) (x : Bx) (fx : Bool) (q : Option Addr) (h : Has w g 68 (tierC ⟨x, fx⟩ q)) :
    Calls Try.prog 44 #[.pointer (some ⟨g, 0, none⟩)] w fun e w' => e = .returned (.bool (opn x)) ∧ w' = w := by
  obtain ⟨x0, x1, x2, x3⟩ := x
  have c2 : w.cell? ⟨g, 2, none⟩ = some (.int .i64 x2) := has_cell h 2 rfl
  have c3 : w.cell? ⟨g, 3, none⟩ = some (.bool x3) := has_cell h 3 rfl
  by_cases e : x2 = 0
  · have e1 : decide (x2 = 0) = true := by simpa using e
    have e2 : (x2 == 0) = true := by simpa using e
    cases x3
    · go_enter Try.func44, Try.ntmps44
      go_wp2
      go_ret
      exact ⟨ret_bool (by simp [opn, e]), rfl⟩
    · go_enter Try.func44, Try.ntmps44
      go_wp2
      go_ret
      exact ⟨ret_bool (by simp [opn, e]), rfl⟩
  · have e1 : decide (x2 = 0) = false := by simpa using e
    have e2 : (x2 == 0) = false := by simpa using e
    go_enter Try.func44, Try.ntmps44
    go_wp2
    go_ret
    exact ⟨ret_bool (by simp [opn, e]), rfl⟩

theorem TL.nil_inv {w : World} {lo : Nat} {p : Option Addr} {gs : List Nat} (h : TL w lo p gs []) : p = none ∧ gs = [] := by
  cases gs with
  | nil => exact ⟨h, rfl⟩
  | cons g r => exact h.elim
theorem TL.cons_inv {w : World} {lo : Nat} {p : Option Addr} {gs : List Nat} {t : Tr} {r : List Tr} (h : TL w lo p gs (t :: r)) :
    ∃ g gs', gs = g :: gs' ∧ p = some ⟨g, 0, none⟩ ∧ lo ≤ g ∧ g ∉ gs' ∧ ∃ q, Has w g 68 (tierC t q) ∧ TL w lo q gs' r := by
  cases gs with
  | nil => exact h.elim
  | cons g gs' => exact ⟨g, gs', rfl, h⟩

set_option maxRecDepth 100000 in
set_option maxHeartbeats 1000000 in
theorem tgap_any (w : World) (lo g : Nat) (gs : List Nat) (x : Bx) (fx : Bool) (q : Option Addr) (F : List Int) (L : List Bx)
    (hH : Has w g 68 (tierC ⟨x, fx⟩ q)) (hT : TL w lo q gs (L.map (trOf F))) (hs : ∀ y ∈ L, 1 ≤ y.size) (h0 : 1 ≤ x.size) (h24 : x.size + sumZ L ≤ 24) :
    Calls Try.prog 45 #[.pointer (some ⟨g, 0, none⟩)] w fun e w' => ∃ p', e = .returned (.tuple #[.int .i64 (x.size + runZ F L), .pointer p']) ∧ TL w lo p' (gs.drop (runN F L)) ((L.drop (runN F L)).map (trOf F)) ∧ ∃ n, w' = w.drewN n := by
  obtain ⟨x0, x1, x2, x3⟩ := x
  have c1 : w.cell? ⟨g, 1, none⟩ = some (.int .i64 x1) := has_cell hH 1 rfl
  have c5 : w.cell? ⟨g, 5, none⟩ = some (.pointer q) := has_cell hH 5 rfl
  dsimp only at h0 h24 ⊢
  have hl := has_lt hH
  have HT := Lib.hid hT; have HS := Lib.hid hs; clear hT hs hH
  go_enter Try.func45, Try.ntmps45
  go_wp2
  go_quiet (fail)
  go_wp2
  go_loopw [4, 5] (fun sz ab wr => ∃ (R : List Bx) (gs' : List Nat) (p : Option Addr) (s : Int), sz = .int .i64 s ∧ ab = .pointer p ∧ TL w lo p gs' (R.map (trOf F)) ∧ s + runZ F R = x1 + runZ F L ∧ L.drop (runN F L) = R.drop (runN F R) ∧ gs.drop (runN F L) = gs'.drop (runN F R) ∧ 1 ≤ s ∧ s + sumZ R ≤ 24 ∧ (∀ y ∈ R, 1 ≤ y.size) ∧ ∃ n, wr = w.drewN n) (fun sz _ _ => (25 - intOf sz).toNat)
  case atStart => exact ⟨L, gs, q, x1, rfl, rfl, HT.out, rfl, rfl, rfl, h0, h24, HS.out, _, rfl⟩
  case round =>
    obtain ⟨R, gs', p, s, rfl, rfl, hT, hs1, hs2, hs3, hs4, hs5, hs6, n, rfl⟩ := hrel
    rcases R with _ | ⟨⟨y0, y1, y2, y3⟩, r⟩
    · obtain ⟨rfl, rfl⟩ := hT.nil_inv
      have HF := Lib.hid (And.intro hs1 (And.intro hs2 hs3)); clear hs1 hs2 hs3 hs6
      have HTT := Lib.hid hT; clear hT
      go_wp2
      go_ret2
      obtain ⟨h1, h2, h3⟩ := HF.out
      try simp only [runZ, runN, List.drop_nil, List.drop_zero, Int.add_zero] at h1 h2 h3
      subst h1
      exact ⟨none, rfl, by rw [h2, h3]; rfl, _, rfl⟩
    · obtain ⟨g2, gs2, rfl, rfl, hlo, hni, q2, hH2, hT2⟩ := hT.cons_inv
      have HF := Lib.hid (And.intro hs1 (And.intro hs2 hs3)); clear hs1 hs2 hs3
      have hy := hs6 _ List.mem_cons_self
      have hs7 : ∀ y ∈ r, 1 ≤ y.size := fun y hy => hs6 y (List.mem_cons_of_mem _ hy)
      rw [sumZ_cons] at hs5
      have hsp := sumZ_pos hs7
      dsimp only at hy hs5
      have HS6 := Lib.hid hs7; have HTT := Lib.hid hT; have HT2 := Lib.hid hT2; have HH2 := Lib.hid hH2; clear hs6 hs7 hT hT2
      have hl2 := has_lt hH2
      have d1 : (w.drewN n).cell? ⟨g2, 1, none⟩ = some (.int .i64 y1) := has_cell hH2 1 rfl
      have d4 : (w.drewN n).cell? ⟨g2, 4, none⟩ = some (.bool (F.contains y0)) := has_cell hH2 4 rfl
      have d5 : (w.drewN n).cell? ⟨g2, 5, none⟩ = some (.pointer q2) := has_cell hH2 5 rfl
      clear hH2
      generalize hfx : F.contains y0 = fx2 at d4
      have HFX := Lib.hid hfx; clear hfx
      obtain ⟨op, hop⟩ : ∃ op, op = opn ⟨y0, y1, y2, y3⟩ := ⟨_, rfl⟩
      have HOP := Lib.hid hop; clear hop
      cases op
      · go_wp2_with (go_at_call 44; refine (isFree_any (w.drewN n) g2 ⟨y0, y1, y2, y3⟩ _ q2 HH2.out).mono ?_; rintro e w' ⟨rfl, hw⟩; rw [hw, ← HOP.out]; clear hw)
        go_ret2
        obtain ⟨h1, h2, h3⟩ := HF.out
        have hn := runZ_no (F := F) (x := ⟨y0, y1, y2, y3⟩) (r := r) (by simp [goOn, ← HOP.out])
        rw [hn.1, Int.add_zero] at h1; rw [hn.2, List.drop_zero] at h2 h3
        subst h1
        exact ⟨some ⟨g2, 0, none⟩, rfl, by rw [h2, h3]; exact HTT.out, _, rfl⟩
      · cases fx2
        · go_wp2_with (go_at_call 44; refine (isFree_any (w.drewN n) g2 ⟨y0, y1, y2, y3⟩ _ q2 HH2.out).mono ?_; rintro e w' ⟨rfl, hw⟩; rw [hw, ← HOP.out]; clear hw)
          go_roundw
          case rel =>
            have hn := runZ_go (F := F) (x := ⟨y0, y1, y2, y3⟩) (r := r) (by unfold goOn; rw [HFX.out, ← HOP.out]; rfl)
            obtain ⟨h1, h2, h3⟩ := HF.out
            rw [hn.1] at h1; rw [hn.2, List.drop_succ_cons] at h2 h3
            dsimp only at h1
            exact ⟨r, gs2, q2, s + y1, by go_num, rfl, HT2.out, by omega, h2, h3, by omega, by omega, HS6.out, _, rfl⟩
          case measure => simp [intOf]; omega
        · go_wp2_with (go_at_call 44; refine (isFree_any (w.drewN n) g2 ⟨y0, y1, y2, y3⟩ _ q2 HH2.out).mono ?_; rintro e w' ⟨rfl, hw⟩; rw [hw, ← HOP.out]; clear hw)
          go_ret2
          obtain ⟨h1, h2, h3⟩ := HF.out
          have hn := runZ_no (F := F) (x := ⟨y0, y1, y2, y3⟩) (r := r) (by unfold goOn; rw [HFX.out]; simp)
          rw [hn.1, Int.add_zero] at h1; rw [hn.2, List.drop_zero] at h2 h3
          subst h1
          exact ⟨some ⟨g2, 0, none⟩, rfl, by rw [h2, h3]; exact HTT.out, _, rfl⟩
end Go.Proofs.Ythmoonjceokijaa
