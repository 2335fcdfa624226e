/- Chapter 2: the program's boxes of a stack: isFree, gap. -/
import Derived.Test.YthfpjfekemelaaaQ03
import Derived.Test.YthfpjfekemelaaaQ04
import Derived.Test.YthfpjfekemelaaaQ01
import Derived.Maps.AppendAt
import Derived.Laws.Rows
import Derived.RegionTactic
import Derived.OwnWalk
import Derived.Deep.AppendLies
import Derived.Deep.DeepMust
import Derived.Deep.RegionHeld3
import Derived.WalkSpells
import Derived.Lib.SliceRun
namespace Go.Proofs.Ythfpjfekemelaaa
open Go.RowKit
set_option linter.unusedVariables false

theorem ret_pr {a b c d : Value} (h1 : a = c) (h2 : b = d) : Ending.returned (.tuple #[a, b]) = .returned (.tuple #[c, d]) := by rw [h1, h2]
set_option maxRecDepth 100000 in
theorem isFree_any (w : World) (g : Nat) (x : Bx) (fx : Bool) (q : Option Addr) (h : Has w g 85 (tierC ⟨x, fx⟩ q)) :
    Calls Try.prog 66 #[.pointer (some ⟨g, 0, none⟩)] w fun e w' => e = .returned (.bool (opn x)) ∧ w' = w := by
  obtain ⟨x0, x1, x2, x3⟩ := x
  have c2 : w.cell? ⟨g, 2, none⟩ = some (.int .i64 x2) := has_cell h 2 rfl
  have c3 : w.cell? ⟨g, 3, none⟩ = some (.bool x3) := has_cell h 3 rfl
  by_cases e : x2 = 0
  · have e1 : decide (x2 = 0) = true := by simpa using e
    have e2 : (x2 == 0) = true := by simpa using e
    cases x3
    · go_enter Try.func66, Try.ntmps66
      go_wp2
      go_ret
      exact ⟨ret_bool (by simp [opn, e]), rfl⟩
    · go_enter Try.func66, Try.ntmps66
      go_wp2
      go_ret
      exact ⟨ret_bool (by simp [opn, e]), rfl⟩
  · have e1 : decide (x2 = 0) = false := by simpa using e
    have e2 : (x2 == 0) = false := by simpa using e
    go_enter Try.func66, Try.ntmps66
    go_wp2
    go_ret
    exact ⟨ret_bool (by simp [opn, e]), rfl⟩

theorem TL.nil_inv {w : World} {lo : Nat} {p : Option Addr} {gs : List Nat} (h : TL w lo p gs []) : p = none ∧ gs = [] := by
  cases gs with
  | nil => exact ⟨h, rfl⟩
  | cons g r => exact h.elim
theorem TL.cons_inv {w : World} {lo : Nat} {p : Option Addr} {gs : List Nat} {t : Tr} {r : List Tr} (h : TL w lo p gs (t :: r)) :
    ∃ g gs', gs = g :: gs' ∧ p = some ⟨g, 0, none⟩ ∧ lo ≤ g ∧ g ∉ gs' ∧ ∃ q, Has w g 85 (tierC t q) ∧ TL w lo q gs' r := by
  cases gs with
  | nil => exact h.elim
  | cons g gs' => exact ⟨g, gs', rfl, h⟩

set_option maxRecDepth 100000 in
set_option maxHeartbeats 1000000 in
theorem tgap_any (w : World) (lo g : Nat) (gs : List Nat) (x : Bx) (fx : Bool) (q : Option Addr) (F : List Int) (L : List Bx)
    (hH : Has w g 85 (tierC ⟨x, fx⟩ q)) (hT : TL w lo q gs (L.map (trOf F))) (hs : ∀ y ∈ L, 1 ≤ y.size) (h0 : 1 ≤ x.size) (h24 : x.size + sumZ L ≤ 24) :
    Calls Try.prog 67 #[.pointer (some ⟨g, 0, none⟩)] w fun e w' => ∃ p', e = .returned (.tuple #[.int .i64 (x.size + runZ F L), .pointer p']) ∧ TL w lo p' (gs.drop (runN F L)) ((L.drop (runN F L)).map (trOf F)) ∧ ∃ n, w' = w.drewN n := by
  obtain ⟨x0, x1, x2, x3⟩ := x
  have c1 : w.cell? ⟨g, 1, none⟩ = some (.int .i64 x1) := has_cell hH 1 rfl
  have c5 : w.cell? ⟨g, 5, none⟩ = some (.pointer q) := has_cell hH 5 rfl
  dsimp only at h0 h24 ⊢
  have hl := has_lt hH
  have HT := Lib.hid hT; have HS := Lib.hid hs; clear hT hs hH
  go_enter Try.func67, Try.ntmps67
  go_wp2
  go_quiet (fail)
  go_wp2
  go_loopw [4, 5] (fun sz ab wr => ∃ (R : List Bx) (gs' : List Nat) (p : Option Addr) (s : Int), sz = .int .i64 s ∧ ab = .pointer p ∧ TL w lo p gs' (R.map (trOf F)) ∧ s + runZ F R = x1 + runZ F L ∧ L.drop (runN F L) = R.drop (runN F R) ∧ gs.drop (runN F L) = gs'.drop (runN F R) ∧ 1 ≤ s ∧ s + sumZ R ≤ 24 ∧ (∀ y ∈ R, 1 ≤ y.size) ∧ ∃ n, wr = w.drewN n) (fun sz _ _ => (25 - intOf sz).toNat)
  case atStart => exact ⟨L, gs, q, x1, rfl, rfl, HT.out, rfl, rfl, rfl, h0, h24, HS.out, _, rfl⟩
  case round =>
    obtain ⟨R, gs', p, s, rfl, rfl, hT, hs1, hs2, hs3, hs4, hs5, hs6, n, rfl⟩ := hrel
    rcases R with _ | ⟨⟨y0, y1, y2, y3⟩, r⟩
    · obtain ⟨rfl, rfl⟩ := hT.nil_inv
      have HF := Lib.hid (And.intro hs1 (And.intro hs2 hs3)); clear hs1 hs2 hs3 hs6
      have HTT := Lib.hid hT; clear hT
      go_wp2
      go_ret2
      obtain ⟨h1, h2, h3⟩ := HF.out
      try simp only [runZ, runN, List.drop_nil, List.drop_zero, Int.add_zero] at h1 h2 h3
      subst h1
      exact ⟨none, rfl, by rw [h2, h3]; rfl, _, rfl⟩
    · obtain ⟨g2, gs2, rfl, rfl, hlo, hni, q2, hH2, hT2⟩ := hT.cons_inv
      have HF := Lib.hid (And.intro hs1 (And.intro hs2 hs3)); clear hs1 hs2 hs3
      have hy := hs6 _ List.mem_cons_self
      have hs7 : ∀ y ∈ r, 1 ≤ y.size := fun y hy => hs6 y (List.mem_cons_of_mem _ hy)
      rw [sumZ_cons] at hs5
      have hsp := sumZ_pos hs7
      dsimp only at hy hs5
      have HS6 := Lib.hid hs7; have HTT := Lib.hid hT; have HT2 := Lib.hid hT2; have HH2 := Lib.hid hH2; clear hs6 hs7 hT hT2
      have hl2 := has_lt hH2
      have d1 : (w.drewN n).cell? ⟨g2, 1, none⟩ = some (.int .i64 y1) := has_cell hH2 1 rfl
      have d4 : (w.drewN n).cell? ⟨g2, 4, none⟩ = some (.bool (F.contains y0)) := has_cell hH2 4 rfl
      have d5 : (w.drewN n).cell? ⟨g2, 5, none⟩ = some (.pointer q2) := has_cell hH2 5 rfl
      clear hH2
      generalize hfx : F.contains y0 = fx2 at d4
      have HFX := Lib.hid hfx; clear hfx
      obtain ⟨op, hop⟩ : ∃ op, op = opn ⟨y0, y1, y2, y3⟩ := ⟨_, rfl⟩
      have HOP := Lib.hid hop; clear hop
      cases op
      · go_wp2_with (go_at_call 66; refine (isFree_any (w.drewN n) g2 ⟨y0, y1, y2, y3⟩ _ q2 HH2.out).mono ?_; rintro e w' ⟨rfl, hw⟩; rw [hw, ← HOP.out]; clear hw)
        go_ret2
        obtain ⟨h1, h2, h3⟩ := HF.out
        have hn := runZ_no (F := F) (x := ⟨y0, y1, y2, y3⟩) (r := r) (by simp [goOn, ← HOP.out])
        rw [hn.1, Int.add_zero] at h1; rw [hn.2, List.drop_zero] at h2 h3
        subst h1
        exact ⟨some ⟨g2, 0, none⟩, rfl, by rw [h2, h3]; exact HTT.out, _, rfl⟩
      · cases fx2
        · go_wp2_with (go_at_call 66; refine (isFree_any (w.drewN n) g2 ⟨y0, y1, y2, y3⟩ _ q2 HH2.out).mono ?_; rintro e w' ⟨rfl, hw⟩; rw [hw, ← HOP.out]; clear hw)
          go_roundw
          case rel =>
            have hn := runZ_go (F := F) (x := ⟨y0, y1, y2, y3⟩) (r := r) (by unfold goOn; rw [HFX.out, ← HOP.out]; rfl)
            obtain ⟨h1, h2, h3⟩ := HF.out
            rw [hn.1] at h1; rw [hn.2, List.drop_succ_cons] at h2 h3
            dsimp only at h1
            exact ⟨r, gs2, q2, s + y1, by go_num, rfl, HT2.out, by omega, h2, h3, by omega, by omega, HS6.out, _, rfl⟩
          case measure => simp [intOf]; omega
        · go_wp2_with (go_at_call 66; refine (isFree_any (w.drewN n) g2 ⟨y0, y1, y2, y3⟩ _ q2 HH2.out).mono ?_; rintro e w' ⟨rfl, hw⟩; rw [hw, ← HOP.out]; clear hw)
          go_ret2
          obtain ⟨h1, h2, h3⟩ := HF.out
          have hn := runZ_no (F := F) (x := ⟨y0, y1, y2, y3⟩) (r := r) (by unfold goOn; rw [HFX.out]; simp)
          rw [hn.1, Int.add_zero] at h1; rw [hn.2, List.drop_zero] at h2 h3
          subst h1
          exact ⟨some ⟨g2, 0, none⟩, rfl, by rw [h2, h3]; exact HTT.out, _, rfl⟩
end Go.Proofs.Ythfpjfekemelaaa
namespace Go.Proofs.Ythfpjfekemelaaa
open Go.RowKit
set_option linter.unusedVariables false

theorem own_has {w : World} {base : Nat} {e : TypeId} {size n : Nat} {v : Value} {xs : List Value} (h : w.ownsRow base e size v n xs) (b : Nat) (hb : v.ownBlock = some b) : base ≤ b ∧ ∃ cur, Has w b e cur := by
  obtain ⟨_, ⟨rfl, _⟩ | ⟨g', cap, cur, rfl, h2, hh, _⟩⟩ := h
  · simp [Value.ownBlock] at hb
  · have : g' = b := by simpa [Value.ownBlock] using hb
    subst this
    exact ⟨h2, cur, hh⟩
theorem has_grown {w w' : World} {g : Nat} {t : TypeId} {cs : Array Value} {row : Option Nat} (h : Has w g t cs) (hg : w.grownBy w' row) (hr : some g ≠ row) : Has w' g t cs := (hg.block g (has_lt h) hr).trans h
/-- the m elements behind A read as these cells -/
structure Src (w : World) (A : Option Addr) (m size : Nat) (news : List Value) : Prop where
  len : news.length = m * size
  one : ∀ u ∈ news, u.oneCell' = true
  nil : A = none → m = 0
  at_ : ∀ ad, A = some ad → ∀ j u, news[j]? = some u → w.cell? (ad.add j) = some u
section
variable {P : Program} {w : World}
theorem ran_nil (base : Nat) (t ty e : TypeId) (i : TypeInfo) (size : Nat) (ht : P.underlying t = some (.slice e)) (hi : P.info? e = some i)
    (v : Value) (n : Nat) (xs : List Value) (hown : w.ownsRow base e size v n xs) (c : Nat) : (Builtin.append_ #[t, t] ty #[v, .slice none 0 c]).run P w = .ok v w := by
  obtain ⟨_, ⟨rfl, rfl⟩ | ⟨g, cap, cur, rfl, _, _, hcap, _⟩⟩ := hown <;>
    simp [Builtin.append_, Builtin.lenOf, Builtin.firstCells, run_underlying ht, sizeOf, typeInfo, hi, storeCells]
  omega
theorem ran_app (base : Nat) (t ty e : TypeId) (i : TypeInfo) (z : Value) (size bytes : Nat) (ht : P.underlying t = some (.slice e)) (hi : P.info? e = some i) (hz : i.zero = some z)
    (hsize : i.size = size) (hby : i.bytes = bytes) (hzs : z.cells.size = size) (hsz : 0 < size)
    (v : Value) (n : Nat) (xs : List Value) (hown : w.ownsRow base e size v n xs) (A : Option Addr) (m c : Nat) (news : List Value) (hS : Src w A m size news)
    (h63 : n + m ≤ maxLen) (hbytes : (n + m) * bytes ≤ 140737488355328) (hbase : base ≤ w.heap.size) :
    ∃ A' c' w', (Builtin.append_ #[t, t] ty #[v, .slice A m c]).run P w = .ok (.slice A' (n + m) c') w' ∧ w'.ownsRow base e size (.slice A' (n + m) c') (n + m) (xs ++ news) ∧ w.grownBy w' v.ownBlock := by
  have key : ∃ v' w', (Builtin.append_ #[t, t] ty #[v, .slice A m c]).run P w = .ok v' w' ∧ w'.ownsRow base e size v' (n + m) (xs ++ news) ∧ w.grownBy w' v.ownBlock := by
    cases hA : A with
    | none =>
      obtain rfl := hS.nil hA
      have hn : news = [] := List.eq_nil_of_length_eq_zero (by rw [hS.len]; omega)
      subst hn
      exact ⟨v, w, ran_nil base t ty e i size ht hi v n xs hown c, by simpa using hown, World.grownBy.refl w _⟩
    | some ad =>
      obtain ⟨v', w', hr, h2, h3, _⟩ := run_append_own_at (P := P) w base t ty e i z size bytes ht hi hz hsize hby hzs hsz v n xs hown ad m c news hS.len (hS.at_ ad hA) hS.one h63 hbytes hbase
      exact ⟨v', w', hr, h2, h3⟩
  obtain ⟨v', w', hr, h2, h3⟩ := key
  have hform : ∃ A' c', v' = .slice A' (n + m) c' := by
    rcases h2.2 with ⟨rfl, h0⟩ | ⟨g, cap, cur, rfl, _⟩
    · exact ⟨none, 0, by rw [h0]⟩
    · exact ⟨_, _, rfl⟩
  obtain ⟨A', c', rfl⟩ := hform
  exact ⟨A', c', w', hr, h2, h3⟩
theorem at_app {o : Oper} {a : Act} {K : Act → World → Prop} {Q : Exit → Act → World → Prop} (s x : Operand) (t : TypeId)
    (ho : o.op = .call { callee := .builtin .append, args := #[s, x], argTypes := #[t, t] })
    (base : Nat) (e : TypeId) (i : TypeInfo) (z : Value) (size bytes : Nat) (ht : P.underlying t = some (.slice e)) (hi : P.info? e = some i) (hz : i.zero = some z)
    (hsize : i.size = size) (hby : i.bytes = bytes) (hzs : z.cells.size = size) (hsz : 0 < size)
    (v : Value) (n : Nat) (xs : List Value) (hs : a.eval s = v) (hown : w.ownsRow base e size v n xs) (A : Option Addr) (m c : Nat) (news : List Value) (hx : a.eval x = .slice A m c) (hS : Src w A m size news)
    (h63 : n + m ≤ maxLen) (hbytes : (n + m) * bytes ≤ 140737488355328) (hbase : base ≤ w.heap.size)
    (h : ∀ A' c' w', w'.ownsRow base e size (.slice A' (n + m) c') (n + m) (xs ++ news) → w.grownBy w' v.ownBlock → (∀ b, v.ownBlock = some b → base ≤ b ∧ ∃ cur, Has w b e cur) → K (a.put o.dst (.slice A' (n + m) c')) w') : o.wp P a w K Q := by
  obtain ⟨A', c', w', hr, h2, h3⟩ := ran_app (P := P) base t o.type e i z size bytes ht hi hz hsize hby hzs hsz v n xs hown A m c news hS h63 hbytes hbase
  unfold Oper.wp execOp
  simp only [ho, resolve, invoke, builtin, Sem.run_bind, Sem.run_pure, Result.andThen_ok, List.map_toArray, List.map_cons, List.map_nil, hs, hx, hr]
  exact h A' c' w' h2 h3 (own_has hown)
theorem list_app {ops : Array Oper} {rest : List Oper} {o : Oper} {a : Act} {Q : Exit → Act → World → Prop} (hgd : o.guard = none) (s x : Operand) (t : TypeId)
    (ho : o.op = .call { callee := .builtin .append, args := #[s, x], argTypes := #[t, t] })
    (base : Nat) (e : TypeId) (i : TypeInfo) (z : Value) (size bytes : Nat) (ht : P.underlying t = some (.slice e)) (hi : P.info? e = some i) (hz : i.zero = some z)
    (hsize : i.size = size) (hby : i.bytes = bytes) (hzs : z.cells.size = size) (hsz : 0 < size)
    (v : Value) (n : Nat) (xs : List Value) (hs : a.eval s = v) (hown : w.ownsRow base e size v n xs) (A : Option Addr) (m c : Nat) (news : List Value) (hx : a.eval x = .slice A m c) (hS : Src w A m size news)
    (h63 : n + m ≤ maxLen) (hbytes : (n + m) * bytes ≤ 140737488355328) (hbase : base ≤ w.heap.size)
    (h : ∀ A' c' w', w'.ownsRow base e size (.slice A' (n + m) c') (n + m) (xs ++ news) → w.grownBy w' v.ownBlock → (∀ b, v.ownBlock = some b → base ≤ b ∧ ∃ cur, Has w b e cur) → wpList P ops Q rest (a.put o.dst (.slice A' (n + m) c')) w') : wpList P ops Q (o :: rest) a w :=
  wpList_plain hgd fun _ hK => at_app s x t ho base e i z size bytes ht hi hz hsize hby hzs hsz v n xs hs hown A m c news hx hS h63 hbytes hbase fun A' c' w' h2 h3 h4 => hK _ _ (h A' c' w' h2 h3 h4)
theorem step_app {ops : Array Oper} {o : Oper} {a : Act} {K : Act → World → Prop} {Q : Exit → Act → World → Prop} {E : Prop} (hgd : o.guard = none) (s x : Operand) (t : TypeId)
    (ho : o.op = .call { callee := .builtin .append, args := #[s, x], argTypes := #[t, t] })
    (base : Nat) (e : TypeId) (i : TypeInfo) (z : Value) (size bytes : Nat) (ht : P.underlying t = some (.slice e)) (hi : P.info? e = some i) (hz : i.zero = some z)
    (hsize : i.size = size) (hby : i.bytes = bytes) (hzs : z.cells.size = size) (hsz : 0 < size)
    (v : Value) (n : Nat) (xs : List Value) (hs : a.eval s = v) (hown : w.ownsRow base e size v n xs) (A : Option Addr) (m c : Nat) (news : List Value) (hx : a.eval x = .slice A m c) (hS : Src w A m size news)
    (h63 : n + m ≤ maxLen) (hbytes : (n + m) * bytes ≤ 140737488355328) (hbase : base ≤ w.heap.size)
    (h : ∀ A' c' w', w'.ownsRow base e size (.slice A' (n + m) c') (n + m) (xs ++ news) → w.grownBy w' v.ownBlock → (∀ b, v.ownBlock = some b → base ≤ b ∧ ∃ cur, Has w b e cur) → K (a.put o.dst (.slice A' (n + m) c')) w') :
    if Region.wanted o (yielded ops a.tmps) = true then o.wp P a w K Q else E := by
  rw [if_pos (by simp [Region.wanted, hgd])]
  exact at_app s x t ho base e i z size bytes ht hi hz hsize hby hzs hsz v n xs hs hown A m c news hx hS h63 hbytes hbase h
end
/-- nothing, as a row of the call's own -/
theorem owns_new (w : World) (base : Nat) (e : TypeId) (size : Nat) (hb : base ≤ w.heap.size) : (w.alloc (.cells #[] e)).ownsRow base e size (.slice (some ⟨w.heap.size, 0, none⟩) 0 0) 0 [] :=
  World.ownsRow_lit (base := base) (e := e) (size := size) w #[] 0 hb (Nat.zero_le _) (by simp)
theorem owns_at (w : World) (base : Nat) (e : TypeId) (size : Nat) (H : Nat) (hH : w.heap.size = H) (hb : base ≤ H) : (w.alloc (.cells #[] e)).ownsRow base e size (.slice (some ⟨H, 0, none⟩) 0 0) 0 [] := by
  subst hH; exact owns_new w base e size hb
end Go.Proofs.Ythfpjfekemelaaa
namespace Go.Proofs.Ythfpjfekemelaaa
open Go.RowKit
set_option linter.unusedVariables false

theorem addrK (b off i : Nat) : (Addr.mk b off none).add i = ⟨b, off + i, none⟩ := by
  unfold Addr.add
  split
  · rename_i h; subst h; rfl
  · rfl
theorem il_news {w : World} {B : Nat} {a : Addr} {l : List Int} (h : IL w B (some a) l) : ∀ (j : Nat) (u : Value), (intV l)[j]? = some u → w.cell? (a.add j) = some u := by
  intro j u hu
  have hj : j < l.length := by have := (List.getElem?_eq_some_iff.1 hu).1; rwa [intV_len] at this
  rcases h with h | ⟨b, off, e, _, hc⟩
  · rw [h] at hj; simp at hj
  · injection e with e; subst e
    rw [addrK]
    have hx := List.getElem?_eq_getElem hj
    rw [intV_at hx] at hu
    rw [← hu]; exact hc j _ hx
theorem xl_news {w : World} {B : Nat} {a : Addr} {l : List Bx} (h : XL w B (some a) l) : ∀ (j : Nat) (u : Value), (boxV l)[j]? = some u → w.cell? (a.add j) = some u := by
  intro j u hu
  have hj : j < 4 * l.length := by have := (List.getElem?_eq_some_iff.1 hu).1; rwa [boxV_len] at this
  obtain ⟨q, r, rfl, hr⟩ : ∃ q r, j = q * 4 + r ∧ r < 4 := ⟨j / 4, j % 4, by omega, by omega⟩
  have hq : q < l.length := by omega
  have hx := List.getElem?_eq_getElem hq
  have h1 := boxV_at hx
  rcases h with h | ⟨b, off, e, _, hc⟩
  · rw [h] at hq; simp at hq
  · injection e with e; subst e
    have h2 := hc q _ hx
    rw [addrK]
    rcases r with _ | _ | _ | _ | r
    · rw [Nat.add_zero] at hu ⊢; rw [h1.1] at hu; rw [← hu]; exact h2.1
    · rw [h1.2.1] at hu; rw [← hu, ← Nat.add_assoc]; exact h2.2.1
    · rw [h1.2.2.1] at hu; rw [← hu, ← Nat.add_assoc]; exact h2.2.2.1
    · rw [h1.2.2.2] at hu; rw [← hu, ← Nat.add_assoc]; exact h2.2.2.2
    · omega
theorem il_none {w : World} {B : Nat} {l : List Int} (h : IL w B none l) : l = [] := by
  rcases h with h | ⟨b, off, e, _⟩
  · exact h
  · cases e
theorem xl_none {w : World} {B : Nat} {l : List Bx} (h : XL w B none l) : l = [] := by
  rcases h with h | ⟨b, off, e, _⟩
  · exact h
  · cases e
theorem int_one {l : List Int} : ∀ u ∈ intV l, u.oneCell' = true := by
  intro u hu
  obtain ⟨x, _, rfl⟩ := List.mem_map.1 hu
  rfl
theorem box_one {l : List Bx} : ∀ u ∈ boxV l, u.oneCell' = true := by
  intro u hu
  obtain ⟨x, _, hx⟩ := List.mem_flatMap.1 hu
  simp [boxC] at hx
  rcases hx with rfl | rfl | rfl | rfl <;> rfl

set_option maxRecDepth 100000 in
set_option maxHeartbeats 400000 in
theorem cloneInt_any (w : World) (B : Nat) (A : Option Addr) (c : Nat) (l : List Int) (hl : l.length ≤ 1048576) (hB : B ≤ w.heap.size) (hS : IL w B A l) :
    Calls Try.prog 77 #[.slice A l.length c] w fun e w' => ∃ A' c', e = .returned (.slice A' l.length c') ∧ OR w' w.heap.size 3 A' (intV l) ∧ Below w.heap.size w w' := by
  obtain ⟨i0, hi0, hz0, hz1, hz2⟩ := info_parts intInfo
  rcases A with _ | a
  · obtain rfl := il_none hS
    have hn := fun (w : World) (n c n' c' : Nat) => Lib.run_eql_slice_nil (P := Try.prog) w 43 3 none n c n' c' Try.underlying43
    go_enter Try.func77, Try.ntmps77
    go_wp2
    go_ret
    exact ⟨none, 0, rfl, .inl rfl, Below.refl _ _⟩
  · have HS := Lib.hid hS; clear hS
    have hn := fun (w : World) (n c n' c' : Nat) => Lib.run_eql_slice_nil (P := Try.prog) w 43 3 (some a) n c n' c' Try.underlying43
    go_enter Try.func77, Try.ntmps77
    go_wp2_with (at_builtin; go_must (refine wpList_append_own _ rfl _ _ 43 rfl w.heap.size 3 i0 (.int .i64 0) 1 8 Try.underlying43 hi0 hz0 hz1 hz2 rfl (by decide) _ _ _ rfl (World.ownsRow_lit (base := w.heap.size) (e := 3) (size := 1) w #[] 0 (Nat.le_refl _) (Nat.zero_le _) rfl) a l.length c (intV l) rfl (by simp [intV_len]) (il_news (HS.out.later hB (balloc _ _))) int_one (by unfold maxLen; omega) (by omega) (by simp) ?_))
    intro v' w3 hown hgrow _
    obtain ⟨A', c', rfl, hor⟩ := or_own hown
    go_wp2
    go_ret
    refine ⟨A', c', by simp, by simpa using hor, ?_⟩
    exact (balloc w (.cells #[] 3)).grown hgrow (by simp) (fun k hk => by simp [Value.ownBlock] at hk; omega)

set_option maxRecDepth 100000 in
set_option maxHeartbeats 400000 in
theorem cloneBox_any (w : World) (B : Nat) (A : Option Addr) (c : Nat) (l : List Bx) (hl : l.length ≤ 1048576) (hB : B ≤ w.heap.size) (hS : XL w B A l) :
    Calls Try.prog 78 #[.slice A l.length c] w fun e w' => ∃ A' c', e = .returned (.slice A' l.length c') ∧ OR w' w.heap.size 65 A' (boxV l) ∧ Below w.heap.size w w' := by
  obtain ⟨i0, hi0, hz0, hz1, hz2⟩ := info_parts boxInfo
  rcases A with _ | a
  · obtain rfl := xl_none hS
    have hn := fun (w : World) (n c n' c' : Nat) => Lib.run_eql_slice_nil (P := Try.prog) w 55 65 none n c n' c' Try.underlying55
    go_enter Try.func78, Try.ntmps78
    go_wp2
    go_ret
    exact ⟨none, 0, rfl, .inl rfl, Below.refl _ _⟩
  · have HS := Lib.hid hS; clear hS
    have hn := fun (w : World) (n c n' c' : Nat) => Lib.run_eql_slice_nil (P := Try.prog) w 55 65 (some a) n c n' c' Try.underlying55
    go_enter Try.func78, Try.ntmps78
    go_wp2_with (at_builtin; go_must (refine wpList_append_own _ rfl _ _ 55 rfl w.heap.size 65 i0 (.agg #[.int .i64 0, .int .i64 0, .int .i64 0, .bool false]) 4 32 Try.underlying55 hi0 hz0 hz1 hz2 rfl (by decide) _ _ _ rfl (World.ownsRow_lit (base := w.heap.size) (e := 65) (size := 4) w #[] 0 (Nat.le_refl _) (Nat.zero_le _) rfl) a l.length c (boxV l) rfl (by rw [boxV_len]; omega) (xl_news (HS.out.later hB (balloc _ _))) box_one (by unfold maxLen; omega) (by omega) (by simp) ?_))
    intro v' w3 hown hgrow _
    obtain ⟨A', c', rfl, hor⟩ := or_own hown
    go_wp2
    go_ret
    refine ⟨A', c', by simp, by simpa using hor, ?_⟩
    exact (balloc w (.cells #[] 65)).grown hgrow (by simp) (fun k hk => by simp [Value.ownBlock] at hk; omega)

theorem cell_far3 {w : World} {g q : Nat} (h : q < g) (o i j k : Nat) (u v x : Value) : (((w.setCell ⟨g, i, none⟩ u).setCell ⟨g, j, none⟩ v).setCell ⟨g, k, none⟩ x).cell? ⟨q, o, none⟩ = w.cell? ⟨q, o, none⟩ := by
  rw [World.cell?_setCell_other _ _ _ _ (fun e => by injection e; omega), World.cell?_setCell_other _ _ _ _ (fun e => by injection e; omega), World.cell?_setCell_other _ _ _ _ (fun e => by injection e; omega)]

theorem keepA {w0 w : World} (q g : Nat) {a b c : Value} (o : Obj) (h : q < g) (hz : g ≤ w0.heap.size) (hS : (w.cell? ⟨q, 0, none⟩ = some a ∧ w.cell? ⟨q, 1, none⟩ = some b ∧ w.cell? ⟨q, 2, none⟩ = some c) ∧ Below g w0 w) :
    ((w.alloc o).cell? ⟨q, 0, none⟩ = some a ∧ (w.alloc o).cell? ⟨q, 1, none⟩ = some b ∧ (w.alloc o).cell? ⟨q, 2, none⟩ = some c) ∧ Below g w0 (w.alloc o) := by
  have hs := hS.2.size
  have k : ∀ i, (w.alloc o).cell? ⟨q, i, none⟩ = w.cell? ⟨q, i, none⟩ := fun i => bold (balloc w o) _ _ (by omega)
  exact ⟨⟨(k 0).trans hS.1.1, (k 1).trans hS.1.2.1, (k 2).trans hS.1.2.2⟩, hS.2.alloc (by omega) _⟩
theorem keepG {w0 w w' : World} (q g : Nat) {a b c : Value} {row : Option Nat} (h : q < g) (hz : g ≤ w0.heap.size) (hS : (w.cell? ⟨q, 0, none⟩ = some a ∧ w.cell? ⟨q, 1, none⟩ = some b ∧ w.cell? ⟨q, 2, none⟩ = some c) ∧ Below g w0 w) (hg : w.grownBy w' row) (hr : ∀ b, row = some b → g ≤ b) :
    (w'.cell? ⟨q, 0, none⟩ = some a ∧ w'.cell? ⟨q, 1, none⟩ = some b ∧ w'.cell? ⟨q, 2, none⟩ = some c) ∧ Below g w0 w' := by
  have hs := hS.2.size
  have hb : Below g w w' := ⟨hg.os, hg.tape, hg.output, hg.size, fun k hk => hg.block k (by omega) (fun e => by have := hr k e.symm; omega)⟩
  have k : ∀ i, w'.cell? ⟨q, i, none⟩ = w.cell? ⟨q, i, none⟩ := fun i => hb.cell (p := ⟨q, i, none⟩) h
  exact ⟨⟨(k 0).trans hS.1.1, (k 1).trans hS.1.2.1, (k 2).trans hS.1.2.2⟩, hS.2.trans hb⟩
theorem OR.alloc_ {w : World} {base : Nat} {e : TypeId} {A : Option Addr} {xs : List Value} (h : OR w base e A xs) (o : Obj) : OR (w.alloc o) base e A xs := h.below (balloc w o)
theorem OR.grown_ {w w' : World} {base : Nat} {e e' : TypeId} {A : Option Addr} {xs : List Value} {row : Option Nat} (h : OR w base e A xs) (hg : w.grownBy w' row) (hr : ∀ b, row = some b → ∃ cur, Has w b e' cur) (hne : e ≠ e') : OR w' base e A xs := by
  rcases h with h | ⟨g, cur, rfl, hb, hh, hc⟩
  · exact .inl h
  · refine .inr ⟨g, cur, rfl, hb, has_grown hh hg (fun eq => ?_), hc⟩
    obtain ⟨cur', h'⟩ := hr g eq.symm
    have := hh.symm.trans h'
    injection this with this; injection this with _ this _
    exact hne this
theorem keep3 {w0 w : World} {B g q i j k : Nat} {u v x a b c : Value} (h : q < g) (hS : (w.cell? ⟨q, 0, none⟩ = some a ∧ w.cell? ⟨q, 1, none⟩ = some b ∧ w.cell? ⟨q, 2, none⟩ = some c) ∧ Below g w0 w) :
    ((((w.setCell ⟨g, i, none⟩ u).setCell ⟨g, j, none⟩ v).setCell ⟨g, k, none⟩ x).cell? ⟨q, 0, none⟩ = some a ∧ (((w.setCell ⟨g, i, none⟩ u).setCell ⟨g, j, none⟩ v).setCell ⟨g, k, none⟩ x).cell? ⟨q, 1, none⟩ = some b ∧ (((w.setCell ⟨g, i, none⟩ u).setCell ⟨g, j, none⟩ v).setCell ⟨g, k, none⟩ x).cell? ⟨q, 2, none⟩ = some c) ∧ Below g w0 (((w.setCell ⟨g, i, none⟩ u).setCell ⟨g, j, none⟩ v).setCell ⟨g, k, none⟩ x) :=
  ⟨⟨(cell_far3 h _ _ _ _ _ _ _).trans hS.1.1, (cell_far3 h _ _ _ _ _ _ _).trans hS.1.2.1, (cell_far3 h _ _ _ _ _ _ _).trans hS.1.2.2⟩, ((hS.2.setCell (Nat.le_refl _) _).setCell (Nat.le_refl _) _).setCell (Nat.le_refl _) _⟩

set_option maxRecDepth 100000 in
set_option maxHeartbeats 1000000 in
theorem copyI_any (w : World) (B : Nat) (x : Cl) (lf : x.F.length ≤ 1048576) (lb : x.L.length ≤ 1048576) (hB : B ≤ w.heap.size) (hV : CV w B x) :
    Calls Try.prog 53 #[.agg #[.int .i64 x.z, .slice x.AF x.F.length x.cF, .slice x.AB x.L.length x.cB]] w fun e w' => ∃ A2 A3 n2 n3, e = .returned (.agg #[.int .i64 x.z, .slice A2 x.F.length n2, .slice A3 x.L.length n3]) ∧ OR w' w.heap.size 3 A2 (intV x.F) ∧ OR w' w.heap.size 65 A3 (boxV x.L) ∧ Below w.heap.size w w' := by
  have HV := Lib.hid hV; clear hV
  go_enter Try.func53, Try.ntmps53
  go_wp2_with fail
  generalize hW0 : (w.alloc (.cells #[.int .i64 x.z, .slice x.AF x.F.length x.cF, .slice x.AB x.L.length x.cB] 57)).alloc (.cells #[.int .i64 0, .slice none 0 0, .slice none 0 0] 57) = w0
  have b0 : Below w.heap.size w w0 := by rw [← hW0]; exact bthen (balloc _ _) (balloc _ _)
  have k0 : Has w0 w.heap.size 57 #[.int .i64 x.z, .slice x.AF x.F.length x.cF, .slice x.AB x.L.length x.cB] := by rw [← hW0]; exact has_alloc (has_new _ _ _) _
  have k1 : Has w0 (w.heap.size + 1) 57 #[.int .i64 0, .slice none 0 0, .slice none 0 0] := by rw [← hW0]; have := has_new (w.alloc (.cells #[.int .i64 x.z, .slice x.AF x.F.length x.cF, .slice x.AB x.L.length x.cB] 57)) 57 #[.int .i64 0, .slice none 0 0, .slice none 0 0]; simpa using this
  clear hW0
  have e0 := has_cell k0 0 rfl
  have e1 := has_cell k0 1 rfl
  have e2 := has_cell k0 2 rfl
  have K0 := Lib.hid k0; have K1 := Lib.hid k1; clear k0
  have hz : w.heap.size + 1 < w0.heap.size := has_lt k1
  clear k1
  have v0 := HV.out.later hB b0
  have V0 := Lib.hid v0; clear v0
  have hb0z := b0.size
  have hBz : B ≤ w0.heap.size := by omega
  have S0 : (fun W : World => (W.cell? ⟨w.heap.size, 0, none⟩ = some (.int .i64 x.z) ∧ W.cell? ⟨w.heap.size, 1, none⟩ = some (.slice x.AF x.F.length x.cF) ∧ W.cell? ⟨w.heap.size, 2, none⟩ = some (.slice x.AB x.L.length x.cB)) ∧ Below (w.heap.size + 1) w0 W) w0.drew := ⟨⟨e0, e1, e2⟩, (Below.refl _ _).drew⟩
  clear e0 e1 e2
  go_region_held3 (fun W : World => (W.cell? ⟨w.heap.size, 0, none⟩ = some (.int .i64 x.z) ∧ W.cell? ⟨w.heap.size, 1, none⟩ = some (.slice x.AF x.F.length x.cF) ∧ W.cell? ⟨w.heap.size, 2, none⟩ = some (.slice x.AB x.L.length x.cB)) ∧ Below (w.heap.size + 1) w0 W) (first | assumption | (go_loud (exact ⟨⟨(cell_far3 (Nat.lt_add_one _) _ _ _ _ _ _ _).trans S2.1.1, (cell_far3 (Nat.lt_add_one _) _ _ _ _ _ _ _).trans S2.1.2.1, (cell_far3 (Nat.lt_add_one _) _ _ _ _ _ _ _).trans S2.1.2.2⟩, ((S2.2.setCell (p := ⟨w.heap.size + 1, 0, none⟩) (Nat.le_refl _) _).setCell (p := ⟨w.heap.size + 1, 1, none⟩) (Nat.le_refl _) _).setCell (p := ⟨w.heap.size + 1, 2, none⟩) (Nat.le_refl _) _⟩))) (first
    | (go_at_call 77; go_must (refine (cloneInt_any w0.drew B x.AF x.cF x.F lf hBz V0.out.f).mono ?_); rintro e w1 ⟨A2, n2, rfl, ho1, hb1⟩; have HO1 := Lib.hid ho1; clear ho1; have hb01 : Below w0.heap.size w0 w1 := ((Below.refl w0.heap.size w0).drew).trans hb1; have hz01 := hb01.size; clear hb1; have S1 : (fun W : World => (W.cell? ⟨w.heap.size, 0, none⟩ = some (.int .i64 x.z) ∧ W.cell? ⟨w.heap.size, 1, none⟩ = some (.slice x.AF x.F.length x.cF) ∧ W.cell? ⟨w.heap.size, 2, none⟩ = some (.slice x.AB x.L.length x.cB)) ∧ Below (w.heap.size + 1) w0 W) w1 := ⟨⟨(bold hb01 _ _ (by omega)).trans S0.1.1, (bold hb01 _ _ (by omega)).trans S0.1.2.1, (bold hb01 _ _ (by omega)).trans S0.1.2.2⟩, hb01.mono (by omega)⟩)
    | (go_at_call 78; go_must (refine (cloneBox_any w1 B x.AB x.cB x.L lb (by omega) (V0.out.b.later hBz hb01)).mono ?_); rintro e w2 ⟨A3, n3, rfl, ho2, hb2⟩; have HO2 := Lib.hid ho2; clear ho2; have hb02 := bthen hb01 hb2; have hz02 := hb02.size; have HB2 := Lib.hid hb2; clear hb2; have S2 : (fun W : World => (W.cell? ⟨w.heap.size, 0, none⟩ = some (.int .i64 x.z) ∧ W.cell? ⟨w.heap.size, 1, none⟩ = some (.slice x.AF x.F.length x.cF) ∧ W.cell? ⟨w.heap.size, 2, none⟩ = some (.slice x.AB x.L.length x.cB)) ∧ Below (w.heap.size + 1) w0 W) w2 := ⟨⟨(bold hb02 _ _ (by omega)).trans S0.1.1, (bold hb02 _ _ (by omega)).trans S0.1.2.1, (bold hb02 _ _ (by omega)).trans S0.1.2.2⟩, hb02.mono (by omega)⟩; have k2 := has_call K1.out hb02; have y0 := has_cell k2 0 rfl; have y1 := has_cell k2 1 rfl; have y2 := has_cell k2 2 rfl; have f0 := has_free k2 0; have f1 := has_free k2 1; have f2 := has_free k2 2; have K2 := Lib.hid k2; clear k2))
  have hold : Has (((w2.setCell ⟨w.heap.size + 1, 0, none⟩ (.int .i64 x.z)).setCell ⟨w.heap.size + 1, 1, none⟩ (.slice A2 x.F.length n2)).setCell ⟨w.heap.size + 1, 2, none⟩ (.slice A3 x.L.length n3)) (w.heap.size + 1) 57 #[.int .i64 x.z, .slice A2 x.F.length n2, .slice A3 x.L.length n3] := by
    have := has_set (has_set (has_set K2.out 0 (.int .i64 x.z)) 1 (.slice A2 x.F.length n2)) 2 (.slice A3 x.L.length n3)
    simpa using this
  have g0 := has_cell hold 0 rfl
  have g1 := has_cell hold 1 rfl
  have g2 := has_cell hold 2 rfl
  clear y0 y1 y2 f0 f1 f2 S0 S1 S2
  go_wp2_with fail
  refine bodyPost_ret (v := .agg #[.int .i64 x.z, .slice A2 x.F.length n2, .slice A3 x.L.length n3]) (by simp [results, Try.results53, go_sem, g0, g1, g2]) rfl ⟨A2, A3, n2, n3, rfl, ?_, ?_, ?_⟩
  · have sA : OR w2 w0.heap.size 3 A2 (intV x.F) := HO1.out.below HB2.out
    exact (((sA.setlow (by show w.heap.size + 1 < _; omega) _).setlow (by show w.heap.size + 1 < _; omega) _).setlow (by show w.heap.size + 1 < _; omega) _).more (by omega)
  · exact (((HO2.out.setlow (by show w.heap.size + 1 < _; omega) _).setlow (by show w.heap.size + 1 < _; omega) _).setlow (by show w.heap.size + 1 < _; omega) _).more (by omega)
  · exact (((bthen b0 hb02).setCell (by simp) _).setCell (by simp) _).setCell (by simp) _

theorem il_src {w : World} {B : Nat} {A : Option Addr} {l : List Int} (h : IL w B A l) : Src w A l.length 1 (intV l) :=
  ⟨by simp [intV_len], int_one, fun e => by subst e; rw [il_none h]; rfl, fun ad e => by subst e; exact il_news h⟩
theorem xl_src {w : World} {B : Nat} {A : Option Addr} {l : List Bx} (h : XL w B A l) : Src w A l.length 4 (boxV l) :=
  ⟨by rw [boxV_len]; omega, box_one, fun e => by subst e; rw [xl_none h]; rfl, fun ad e => by subst e; exact xl_news h⟩
theorem or_of {w : World} {base : Nat} {e : TypeId} {A : Option Addr} {xs : List Value} {size n c : Nat} (h : w.ownsRow base e size (.slice A n c) n xs) : OR w base e A xs := by
  obtain ⟨A', c', e1, h1⟩ := or_own h
  injection e1 with e1; subst e1; exact h1

theorem copy_fin {w w0 w2 : World} {A2 A3 : Option Addr} {F L : List Value} {e1 e2 : TypeId} (b0 : Below w.heap.size w w0) (hb : Below (w.heap.size + 1) w0 w2) (h2 : OR w2 (w.heap.size + 2) e1 A2 F) (h3 : OR w2 (w.heap.size + 2) e2 A3 L) (hz : w.heap.size + 2 ≤ w2.heap.size) (u v x : Value) :
    OR (((w2.setCell ⟨w.heap.size + 1, 0, none⟩ u).setCell ⟨w.heap.size + 1, 1, none⟩ v).setCell ⟨w.heap.size + 1, 2, none⟩ x) w.heap.size e1 A2 F ∧ OR (((w2.setCell ⟨w.heap.size + 1, 0, none⟩ u).setCell ⟨w.heap.size + 1, 1, none⟩ v).setCell ⟨w.heap.size + 1, 2, none⟩ x) w.heap.size e2 A3 L ∧ Below w.heap.size w (((w2.setCell ⟨w.heap.size + 1, 0, none⟩ u).setCell ⟨w.heap.size + 1, 1, none⟩ v).setCell ⟨w.heap.size + 1, 2, none⟩ x) :=
  ⟨(((h2.setlow (by show w.heap.size + 1 < _; omega) _).setlow (by show w.heap.size + 1 < _; omega) _).setlow (by show w.heap.size + 1 < _; omega) _).more (by omega),
   (((h3.setlow (by show w.heap.size + 1 < _; omega) _).setlow (by show w.heap.size + 1 < _; omega) _).setlow (by show w.heap.size + 1 < _; omega) _).more (by omega),
   (((b0.trans (hb.mono (by omega))).setCell (by simp) _).setCell (by simp) _).setCell (by simp) _⟩

set_option maxRecDepth 100000 in
set_option maxHeartbeats 8000000 in
theorem copyS_any (w : World) (B : Nat) (x : Cl) (lf : x.F.length ≤ 1048576) (lb : x.L.length ≤ 1048576) (hB : B ≤ w.heap.size) (hV : CV w B x) :
    Calls Try.prog 59 #[.agg #[.int .i64 x.z, .slice x.AF x.F.length x.cF, .slice x.AB x.L.length x.cB]] w fun e w' => ∃ A2 A3 n2 n3, e = .returned (.agg #[.int .i64 x.z, .slice A2 x.F.length n2, .slice A3 x.L.length n3]) ∧ OR w' w.heap.size 3 A2 (intV x.F) ∧ OR w' w.heap.size 65 A3 (boxV x.L) ∧ Below w.heap.size w w' := by
  have HV := Lib.hid hV; clear hV
  obtain ⟨i0, hi0, hz0, hz1, hz2⟩ := info_parts intInfo
  obtain ⟨j0, hj0, hy0, hy1, hy2⟩ := info_parts boxInfo
  go_enter Try.func59, Try.ntmps59
  go_wp2_with fail
  generalize hW0 : (w.alloc (.cells #[.int .i64 x.z, .slice x.AF x.F.length x.cF, .slice x.AB x.L.length x.cB] 57)).alloc (.cells #[.int .i64 0, .slice none 0 0, .slice none 0 0] 57) = w0
  have b0 : Below w.heap.size w w0 := by rw [← hW0]; exact bthen (balloc _ _) (balloc _ _)
  have k0 : Has w0 w.heap.size 57 #[.int .i64 x.z, .slice x.AF x.F.length x.cF, .slice x.AB x.L.length x.cB] := by rw [← hW0]; exact has_alloc (has_new _ _ _) _
  have k1 : Has w0 (w.heap.size + 1) 57 #[.int .i64 0, .slice none 0 0, .slice none 0 0] := by rw [← hW0]; have := has_new (w.alloc (.cells #[.int .i64 x.z, .slice x.AF x.F.length x.cF, .slice x.AB x.L.length x.cB] 57)) 57 #[.int .i64 0, .slice none 0 0, .slice none 0 0]; simpa using this
  clear hW0
  have e0 := has_cell k0 0 rfl
  have e1 := has_cell k0 1 rfl
  have e2 := has_cell k0 2 rfl
  have K0 := Lib.hid k0; have K1 := Lib.hid k1; clear k0
  have hz : w.heap.size + 1 < w0.heap.size := has_lt k1
  clear k1
  have v0 := HV.out.later hB b0
  have V0 := Lib.hid v0; clear v0
  have hb0z := b0.size
  have hBz : B ≤ w0.heap.size := by omega
  have S0 : (fun W : World => (W.cell? ⟨w.heap.size, 0, none⟩ = some (.int .i64 x.z) ∧ W.cell? ⟨w.heap.size, 1, none⟩ = some (.slice x.AF x.F.length x.cF) ∧ W.cell? ⟨w.heap.size, 2, none⟩ = some (.slice x.AB x.L.length x.cB)) ∧ Below (w.heap.size + 1) w0 W) w0.drew := ⟨⟨e0, e1, e2⟩, (Below.refl _ _).drew⟩
  clear e0 e1 e2
  have hw0 : w.heap.size + 1 ≤ w0.heap.size := by omega
  have hw2 : w.heap.size + 2 ≤ w0.heap.size := by omega
  have hw3 : w.heap.size + 2 ≤ w0.heap.size + 1 := by omega
  have hB1 : B ≤ w.heap.size + 1 := by omega
  go_region_held3 (fun W : World => (W.cell? ⟨w.heap.size, 0, none⟩ = some (.int .i64 x.z) ∧ W.cell? ⟨w.heap.size, 1, none⟩ = some (.slice x.AF x.F.length x.cF) ∧ W.cell? ⟨w.heap.size, 2, none⟩ = some (.slice x.AB x.L.length x.cB)) ∧ Below (w.heap.size + 1) w0 W) (first | assumption | exact keepA w.heap.size (w.heap.size + 1) _ (Nat.lt_add_one _) hw0 (by assumption) | exact ⟨⟨(cell_far3 (Nat.lt_add_one _) _ _ _ _ _ _ _).trans hSx.1.1, (cell_far3 (Nat.lt_add_one _) _ _ _ _ _ _ _).trans hSx.1.2.1, (cell_far3 (Nat.lt_add_one _) _ _ _ _ _ _ _).trans hSx.1.2.2⟩, ((hSx.2.setCell (p := ⟨w.heap.size + 1, 0, none⟩) (Nat.le_refl _) _).setCell (p := ⟨w.heap.size + 1, 1, none⟩) (Nat.le_refl _) _).setCell (p := ⟨w.heap.size + 1, 2, none⟩) (Nat.le_refl _) _⟩) (first
    | ((refine step_app rfl _ _ 43 rfl (w.heap.size + 2) 3 i0 (.int .i64 0) 1 8 Try.underlying43 hi0 hz0 hz1 hz2 rfl (by decide) _ 0 [] rfl ?_ x.AF x.F.length x.cF (intV x.F) rfl ?_ ?_ ?_ ?_ ?_); (first | exact (owns_at w0 (w.heap.size + 2) 3 1 _ rfl hw2).drew | exact ((owns_at w0 (w.heap.size + 2) 3 1 _ rfl hw2).alloc _).drew | exact (owns_at (w0.alloc _) (w.heap.size + 2) 3 1 _ (by simp) hw3).drew | exact (owns_at _ (w.heap.size + 2) 3 1 _ rfl hz9) | exact ((owns_at w0 (w.heap.size + 2) 3 1 _ rfl hw2).alloc _).drew.kept hgx (.inr (fun e => by have e' := Option.some.inj (show some _ = some _ from e); exact absurd e' (by simp))) | exact (owns_at (w0.alloc _) (w.heap.size + 2) 3 1 _ (by simp) hw3).drew.kept hgx (.inr (fun e => by have e' := Option.some.inj (show some _ = some _ from e); exact absurd e' (by simp)))); (exact il_src (B := B) (V0.out.f.below (Below.mono (And.right (by assumption)) hB1))); (unfold maxLen; omega); omega; (first | exact hz9 | (simp; omega)); (intro A2 n2 w1 hown1 hgx hb1; have hSx := keepG w.heap.size (w.heap.size + 1) (Nat.lt_add_one _) hw0 (by assumption) hgx (fun b e => by have := (hb1 b e).1; omega); have hz9 := hSx.2.size; have hz9 := Nat.le_trans hw2 hz9; have KT : Has w1 (w.heap.size + 1) 57 #[.int .i64 0, .slice none 0 0, .slice none 0 0] := has_grown (by first | exact has_alloc K1.out _ | exact has_alloc (has_alloc K1.out _) _ | exact KT | exact has_alloc KT _) hgx (fun e => by have := (hb1 _ e.symm).1; omega); have y0 := has_cell KT 0 rfl; have y1 := has_cell KT 1 rfl; have y2 := has_cell KT 2 rfl; have f0 := has_free KT 0; have f1 := has_free KT 1; have f2 := has_free KT 2; have O2 := or_of hown1; try have O3 := OR.grown_ (by first | exact O3 | exact O3.alloc_ _) hgx (fun b e => (hb1 b e).2) (by decide)))
    | ((refine step_app rfl _ _ 55 rfl (w.heap.size + 2) 65 j0 (.agg #[.int .i64 0, .int .i64 0, .int .i64 0, .bool false]) 4 32 Try.underlying55 hj0 hy0 hy1 hy2 rfl (by decide) _ 0 [] rfl ?_ x.AB x.L.length x.cB (boxV x.L) rfl ?_ ?_ ?_ ?_ ?_); (first | exact (owns_at w0 (w.heap.size + 2) 65 4 _ rfl hw2).drew | exact ((owns_at w0 (w.heap.size + 2) 65 4 _ rfl hw2).alloc _).drew | exact (owns_at (w0.alloc _) (w.heap.size + 2) 65 4 _ (by simp) hw3).drew | exact (owns_at _ (w.heap.size + 2) 65 4 _ rfl hz9) | exact ((owns_at w0 (w.heap.size + 2) 65 4 _ rfl hw2).alloc _).drew.kept hgx (.inr (fun e => by have e' := Option.some.inj (show some _ = some _ from e); exact absurd e' (by simp))) | exact (owns_at (w0.alloc _) (w.heap.size + 2) 65 4 _ (by simp) hw3).drew.kept hgx (.inr (fun e => by have e' := Option.some.inj (show some _ = some _ from e); exact absurd e' (by simp)))); (exact xl_src (B := B) (V0.out.b.below (Below.mono (And.right (by assumption)) hB1))); (unfold maxLen; omega); omega; (first | exact hz9 | (simp; omega)); (intro A3 n3 w2 hown2 hgx hb2; have hSx := keepG w.heap.size (w.heap.size + 1) (Nat.lt_add_one _) hw0 (by assumption) hgx (fun b e => by have := (hb2 b e).1; omega); have hz9 := hSx.2.size; have hz9 := Nat.le_trans hw2 hz9; have KT : Has w2 (w.heap.size + 1) 57 #[.int .i64 0, .slice none 0 0, .slice none 0 0] := has_grown (by first | exact has_alloc K1.out _ | exact has_alloc (has_alloc K1.out _) _ | exact KT | exact has_alloc KT _) hgx (fun e => by have := (hb2 _ e.symm).1; omega); have y0 := has_cell KT 0 rfl; have y1 := has_cell KT 1 rfl; have y2 := has_cell KT 2 rfl; have f0 := has_free KT 0; have f1 := has_free KT 1; have f2 := has_free KT 2; have O3 := or_of hown2; try have O2 := OR.grown_ (by first | exact O2 | exact O2.alloc_ _) hgx (fun b e => (hb2 b e).2) (by decide))))
  all_goals
    have hold := has_set (has_set (has_set KT 0 (.int .i64 x.z)) 1 (.slice A2 x.F.length n2)) 2 (.slice A3 x.L.length n3)
    simp only [List.setIfInBounds_toArray, List.set_cons_zero, List.set_cons_succ] at hold
    have g0 := has_cell hold 0 rfl
    have g1 := has_cell hold 1 rfl
    have g2 := has_cell hold 2 rfl
    rw [List.nil_append] at O2 O3
    have fin := copy_fin b0 hSx.2 O2 O3 hz9 (Value.int .i64 x.z) (Value.slice A2 x.F.length n2) (Value.slice A3 x.L.length n3)
    have FIN := Lib.hid fin
    clear fin hSx KT hold O2 O3 y0 y1 y2 f0 f1 f2 hgx S0
    go_wp2_with fail
    refine bodyPost_ret (v := .agg #[.int .i64 x.z, .slice A2 x.F.length n2, .slice A3 x.L.length n3]) (by simp [results, Try.results59, go_sem, g0, g1, g2]) rfl ⟨A2, A3, n2, n3, rfl, FIN.out⟩
end Go.Proofs.Ythfpjfekemelaaa
