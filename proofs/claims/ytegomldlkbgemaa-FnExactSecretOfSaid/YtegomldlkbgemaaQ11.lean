/- Append onto a row that the call owns, from a source that can be read, be it nil, empty or not: in a plain region and at a step of one that draws. -/
import Derived.Test.YtegomldlkbgemaaQ01
import Derived.Maps.AppendAt
import Derived.Laws.Rows
import Derived.RegionTactic
import Derived.OwnWalk
import Derived.Deep.AppendLies
import Derived.Test.YtegomldlkbgemaaQ03
import Derived.Test.YtegomldlkbgemaaQ06
import Derived.Test.YtegomldlkbgemaaQ07
import Derived.Test.YtegomldlkbgemaaQ08
import Derived.Test.YtegomldlkbgemaaQ10
namespace Go.Proofs.Ytegomldlkbgemaa
open Go.RowKit
set_option linter.unusedVariables false

theorem own_has {w : World} {base : Nat} {e : TypeId} {size n : Nat} {v : Value} {xs : List Value} (h : w.ownsRow base e size v n xs) (b : Nat) (hb : v.ownBlock = some b) : base ≤ b ∧ ∃ cur, Has w b e cur := by
  obtain ⟨_, ⟨rfl, _⟩ | ⟨g', cap, cur, rfl, h2, hh, _⟩⟩ := h
  · simp [Value.ownBlock] at hb
  · have : g' = b := by simpa [Value.ownBlock] using hb
    subst this
    exact ⟨h2, cur, hh⟩
theorem has_grown {w w' : World} {g : Nat} {t : TypeId} {cs : Array Value} {row : Option Nat} (h : Has w g t cs) (hg : w.grownBy w' row) (hr : some g ≠ row) : Has w' g t cs := (hg.block g (has_lt h) hr).trans h
/-- the m elements behind A read as these cells -/
structure Src (w : World) (A : Option Addr) (m size : Nat) (news : List Value) : Prop where
  len : news.length = m * size
  one : ∀ u ∈ news, u.oneCell' = true
  nil : A = none → m = 0
  at_ : ∀ ad, A = some ad → ∀ j u, news[j]? = some u → w.cell? (ad.add j) = some u
section
variable {P : Program} {w : World}
theorem ran_nil (base : Nat) (t ty e : TypeId) (i : TypeInfo) (size : Nat) (ht : P.underlying t = some (.slice e)) (hi : P.info? e = some i)
    (v : Value) (n : Nat) (xs : List Value) (hown : w.ownsRow base e size v n xs) (c : Nat) : (Builtin.append_ #[t, t] ty #[v, .slice none 0 c]).run P w = .ok v w := by
  obtain ⟨_, ⟨rfl, rfl⟩ | ⟨g, cap, cur, rfl, _, _, hcap, _⟩⟩ := hown <;>
    simp [Builtin.append_, Builtin.lenOf, Builtin.firstCells, run_underlying ht, sizeOf, typeInfo, hi, storeCells]
  omega
theorem ran_app (base : Nat) (t ty e : TypeId) (i : TypeInfo) (z : Value) (size bytes : Nat) (ht : P.underlying t = some (.slice e)) (hi : P.info? e = some i) (hz : i.zero = some z)
    (hsize : i.size = size) (hby : i.bytes = bytes) (hzs : z.cells.size = size) (hsz : 0 < size)
    (v : Value) (n : Nat) (xs : List Value) (hown : w.ownsRow base e size v n xs) (A : Option Addr) (m c : Nat) (news : List Value) (hS : Src w A m size news)
    (h63 : n + m ≤ maxLen) (hbytes : (n + m) * bytes ≤ 140737488355328) (hbase : base ≤ w.heap.size) :
    ∃ A' c' w', (Builtin.append_ #[t, t] ty #[v, .slice A m c]).run P w = .ok (.slice A' (n + m) c') w' ∧ w'.ownsRow base e size (.slice A' (n + m) c') (n + m) (xs ++ news) ∧ w.grownBy w' v.ownBlock := by
  have key : ∃ v' w', (Builtin.append_ #[t, t] ty #[v, .slice A m c]).run P w = .ok v' w' ∧ w'.ownsRow base e size v' (n + m) (xs ++ news) ∧ w.grownBy w' v.ownBlock := by
    cases hA : A with
    | none =>
      obtain rfl := hS.nil hA
      have hn : news = [] := List.eq_nil_of_length_eq_zero (by rw [hS.len]; omega)
      subst hn
      exact ⟨v, w, ran_nil base t ty e i size ht hi v n xs hown c, by simpa using hown, World.grownBy.refl w _⟩
    | some ad =>
      obtain ⟨v', w', hr, h2, h3, _⟩ := run_append_own_at (P := P) w base t ty e i z size bytes ht hi hz hsize hby hzs hsz v n xs hown ad m c news hS.len (hS.at_ ad hA) hS.one h63 hbytes hbase
      exact ⟨v', w', hr, h2, h3⟩
  obtain ⟨v', w', hr, h2, h3⟩ := key
  have hform : ∃ A' c', v' = .slice A' (n + m) c' := by
    rcases h2.2 with ⟨rfl, h0⟩ | ⟨g, cap, cur, rfl, _⟩
    · exact ⟨none, 0, by rw [h0]⟩
    · exact ⟨_, _, rfl⟩
  obtain ⟨A', c', rfl⟩ := hform
  exact ⟨A', c', w', hr, h2, h3⟩
theorem at_app {o : Oper} {a : Act} {K : Act → World → Prop} {Q : Exit → Act → World → Prop} (s x : Operand) (t : TypeId)
    (ho : o.op = .call { callee := .builtin .append, args := #[s, x], argTypes := #[t, t] })
    (base : Nat) (e : TypeId) (i : TypeInfo) (z : Value) (size bytes : Nat) (ht : P.underlying t = some (.slice e)) (hi : P.info? e = some i) (hz : i.zero = some z)
    (hsize : i.size = size) (hby : i.bytes = bytes) (hzs : z.cells.size = size) (hsz : 0 < size)
    (v : Value) (n : Nat) (xs : List Value) (hs : a.eval s = v) (hown : w.ownsRow base e size v n xs) (A : Option Addr) (m c : Nat) (news : List Value) (hx : a.eval x = .slice A m c) (hS : Src w A m size news)
    (h63 : n + m ≤ maxLen) (hbytes : (n + m) * bytes ≤ 140737488355328) (hbase : base ≤ w.heap.size)
    (h : ∀ A' c' w', w'.ownsRow base e size (.slice A' (n + m) c') (n + m) (xs ++ news) → w.grownBy w' v.ownBlock → (∀ b, v.ownBlock = some b → base ≤ b ∧ ∃ cur, Has w b e cur) → K (a.put o.dst (.slice A' (n + m) c')) w') : o.wp P a w K Q := by
  obtain ⟨A', c', w', hr, h2, h3⟩ := ran_app (P := P) base t o.type e i z size bytes ht hi hz hsize hby hzs hsz v n xs hown A m c news hS h63 hbytes hbase
  unfold Oper.wp execOp
  simp only [ho, resolve, invoke, builtin, Sem.run_bind, Sem.run_pure, Result.andThen_ok, List.map_toArray, List.map_cons, List.map_nil, hs, hx, hr]
  exact h A' c' w' h2 h3 (own_has hown)
theorem list_app {ops : Array Oper} {rest : List Oper} {o : Oper} {a : Act} {Q : Exit → Act → World → Prop} (hgd : o.guard = none) (s x : Operand) (t : TypeId)
    (ho : o.op = .call { callee := .builtin .append, args := #[s, x], argTypes := #[t, t] })
    (base : Nat) (e : TypeId) (i : TypeInfo) (z : Value) (size bytes : Nat) (ht : P.underlying t = some (.slice e)) (hi : P.info? e = some i) (hz : i.zero = some z)
    (hsize : i.size = size) (hby : i.bytes = bytes) (hzs : z.cells.size = size) (hsz : 0 < size)
    (v : Value) (n : Nat) (xs : List Value) (hs : a.eval s = v) (hown : w.ownsRow base e size v n xs) (A : Option Addr) (m c : Nat) (news : List Value) (hx : a.eval x = .slice A m c) (hS : Src w A m size news)
    (h63 : n + m ≤ maxLen) (hbytes : (n + m) * bytes ≤ 140737488355328) (hbase : base ≤ w.heap.size)
    (h : ∀ A' c' w', w'.ownsRow base e size (.slice A' (n + m) c') (n + m) (xs ++ news) → w.grownBy w' v.ownBlock → (∀ b, v.ownBlock = some b → base ≤ b ∧ ∃ cur, Has w b e cur) → wpList P ops Q rest (a.put o.dst (.slice A' (n + m) c')) w') : wpList P ops Q (o :: rest) a w :=
  wpList_plain hgd fun _ hK => at_app s x t ho base e i z size bytes ht hi hz hsize hby hzs hsz v n xs hs hown A m c news hx hS h63 hbytes hbase fun A' c' w' h2 h3 h4 => hK _ _ (h A' c' w' h2 h3 h4)
theorem step_app {ops : Array Oper} {o : Oper} {a : Act} {K : Act → World → Prop} {Q : Exit → Act → World → Prop} {E : Prop} (hgd : o.guard = none) (s x : Operand) (t : TypeId)
    (ho : o.op = .call { callee := .builtin .append, args := #[s, x], argTypes := #[t, t] })
    (base : Nat) (e : TypeId) (i : TypeInfo) (z : Value) (size bytes : Nat) (ht : P.underlying t = some (.slice e)) (hi : P.info? e = some i) (hz : i.zero = some z)
    (hsize : i.size = size) (hby : i.bytes = bytes) (hzs : z.cells.size = size) (hsz : 0 < size)
    (v : Value) (n : Nat) (xs : List Value) (hs : a.eval s = v) (hown : w.ownsRow base e size v n xs) (A : Option Addr) (m c : Nat) (news : List Value) (hx : a.eval x = .slice A m c) (hS : Src w A m size news)
    (h63 : n + m ≤ maxLen) (hbytes : (n + m) * bytes ≤ 140737488355328) (hbase : base ≤ w.heap.size)
    (h : ∀ A' c' w', w'.ownsRow base e size (.slice A' (n + m) c') (n + m) (xs ++ news) → w.grownBy w' v.ownBlock → (∀ b, v.ownBlock = some b → base ≤ b ∧ ∃ cur, Has w b e cur) → K (a.put o.dst (.slice A' (n + m) c')) w') :
    if Region.wanted o (yielded ops a.tmps) = true then o.wp P a w K Q else E := by
  rw [if_pos (by simp [Region.wanted, hgd])]
  exact at_app s x t ho base e i z size bytes ht hi hz hsize hby hzs hsz v n xs hs hown A m c news hx hS h63 hbytes hbase h
end
/-- nothing, as a row of the call's own -/
theorem owns_new (w : World) (base : Nat) (e : TypeId) (size : Nat) (hb : base ≤ w.heap.size) : (w.alloc (.cells #[] e)).ownsRow base e size (.slice (some ⟨w.heap.size, 0, none⟩) 0 0) 0 [] :=
  World.ownsRow_lit (base := base) (e := e) (size := size) w #[] 0 hb (Nat.zero_le _) (by simp)
theorem owns_at (w : World) (base : Nat) (e : TypeId) (size : Nat) (H : Nat) (hH : w.heap.size = H) (hb : base ≤ H) : (w.alloc (.cells #[] e)).ownsRow base e size (.slice (some ⟨H, 0, none⟩) 0 0) 0 [] := by
  subst hH; exact owns_new w base e size hb
end Go.Proofs.Ytegomldlkbgemaa
namespace Go.Proofs.Ytegomldlkbgemaa
open Go.RowKit
set_option linter.unusedVariables false
section
variable {P : Program} {w : World}
theorem ran_appB (base : Nat) (t ty e : TypeId) (i : TypeInfo) (z : Value) (size bytes : Nat) (ht : P.underlying t = some (.slice e)) (hi : P.info? e = some i) (hz : i.zero = some z)
    (hsize : i.size = size) (hby : i.bytes = bytes) (hzs : z.cells.size = size) (hsz : 0 < size)
    (v : Value) (n : Nat) (xs : List Value) (hown : w.ownsRow base e size v n xs) (A : Option Addr) (m c : Nat) (news : List Value) (hS : Src w A m size news)
    (h63 : n + m ≤ maxLen) (hbytes : (n + m) * bytes ≤ 140737488355328) (hbase : base ≤ w.heap.size) :
    ∃ A' c' w', (Builtin.append_ #[t, t] ty #[v, .slice A m c]).run P w = .ok (.slice A' (n + m) c') w' ∧ w'.ownsRow base e size (.slice A' (n + m) c') (n + m) (xs ++ news) ∧ w.grownBy w' v.ownBlock ∧
      ((Value.slice A' (n + m) c').ownBlock = v.ownBlock ∨ (Value.slice A' (n + m) c').ownBlock = some w.heap.size) := by
  have key : ∃ v' w', (Builtin.append_ #[t, t] ty #[v, .slice A m c]).run P w = .ok v' w' ∧ w'.ownsRow base e size v' (n + m) (xs ++ news) ∧ w.grownBy w' v.ownBlock ∧ (v'.ownBlock = v.ownBlock ∨ v'.ownBlock = some w.heap.size) := by
    cases hA : A with
    | none =>
      obtain rfl := hS.nil hA
      have hn : news = [] := List.eq_nil_of_length_eq_zero (by rw [hS.len]; omega)
      subst hn
      exact ⟨v, w, ran_nil base t ty e i size ht hi v n xs hown c, by simpa using hown, World.grownBy.refl w _, .inl rfl⟩
    | some ad =>
      obtain ⟨v', w', hr, h2, h3, _, h5⟩ := run_append_own_at (P := P) w base t ty e i z size bytes ht hi hz hsize hby hzs hsz v n xs hown ad m c news hS.len (hS.at_ ad hA) hS.one h63 hbytes hbase
      exact ⟨v', w', hr, h2, h3, h5⟩
  obtain ⟨v', w', hr, h2, h3, h5⟩ := key
  have hform : ∃ A' c', v' = .slice A' (n + m) c' := by
    rcases h2.2 with ⟨rfl, h0⟩ | ⟨g, cap, cur, rfl, _⟩
    · exact ⟨none, 0, by rw [h0]⟩
    · exact ⟨_, _, rfl⟩
  obtain ⟨A', c', rfl⟩ := hform
  exact ⟨A', c', w', hr, h2, h3, h5⟩
theorem list_appB {ops : Array Oper} {rest : List Oper} {o : Oper} {a : Act} {Q : Exit → Act → World → Prop} (hgd : o.guard = none) (s x : Operand) (t : TypeId)
    (ho : o.op = .call { callee := .builtin .append, args := #[s, x], argTypes := #[t, t] })
    (base : Nat) (e : TypeId) (i : TypeInfo) (z : Value) (size bytes : Nat) (ht : P.underlying t = some (.slice e)) (hi : P.info? e = some i) (hz : i.zero = some z)
    (hsize : i.size = size) (hby : i.bytes = bytes) (hzs : z.cells.size = size) (hsz : 0 < size)
    (v : Value) (n : Nat) (xs : List Value) (hs : a.eval s = v) (hown : w.ownsRow base e size v n xs) (A : Option Addr) (m c : Nat) (news : List Value) (hx : a.eval x = .slice A m c) (hS : Src w A m size news)
    (h63 : n + m ≤ maxLen) (hbytes : (n + m) * bytes ≤ 140737488355328) (hbase : base ≤ w.heap.size)
    (h : ∀ A' c' w', w'.ownsRow base e size (.slice A' (n + m) c') (n + m) (xs ++ news) → w.grownBy w' v.ownBlock → (∀ b, v.ownBlock = some b → base ≤ b ∧ ∃ cur, Has w b e cur) → ((Value.slice A' (n + m) c').ownBlock = v.ownBlock ∨ (Value.slice A' (n + m) c').ownBlock = some w.heap.size) → wpList P ops Q rest (a.put o.dst (.slice A' (n + m) c')) w') : wpList P ops Q (o :: rest) a w :=
  wpList_plain hgd fun K hK => by
    obtain ⟨A', c', w', hr, h2, h3, h5⟩ := ran_appB (P := P) base t o.type e i z size bytes ht hi hz hsize hby hzs hsz v n xs hown A m c news hS h63 hbytes hbase
    unfold Oper.wp execOp
    simp only [ho, resolve, invoke, builtin, Sem.run_bind, Sem.run_pure, Result.andThen_ok, List.map_toArray, List.map_cons, List.map_nil, hs, hx, hr]
    exact hK _ _ (h A' c' w' h2 h3 (own_has hown) h5)
theorem step_appB {ops : Array Oper} {o : Oper} {a : Act} {K : Act → World → Prop} {Q : Exit → Act → World → Prop} {E : Prop} (hgd : o.guard = none) (s x : Operand) (t : TypeId)
    (ho : o.op = .call { callee := .builtin .append, args := #[s, x], argTypes := #[t, t] })
    (base : Nat) (e : TypeId) (i : TypeInfo) (z : Value) (size bytes : Nat) (ht : P.underlying t = some (.slice e)) (hi : P.info? e = some i) (hz : i.zero = some z)
    (hsize : i.size = size) (hby : i.bytes = bytes) (hzs : z.cells.size = size) (hsz : 0 < size)
    (v : Value) (n : Nat) (xs : List Value) (hs : a.eval s = v) (hown : w.ownsRow base e size v n xs) (A : Option Addr) (m c : Nat) (news : List Value) (hx : a.eval x = .slice A m c) (hS : Src w A m size news)
    (h63 : n + m ≤ maxLen) (hbytes : (n + m) * bytes ≤ 140737488355328) (hbase : base ≤ w.heap.size)
    (h : ∀ A' c' w', w'.ownsRow base e size (.slice A' (n + m) c') (n + m) (xs ++ news) → w.grownBy w' v.ownBlock → (∀ b, v.ownBlock = some b → base ≤ b ∧ ∃ cur, Has w b e cur) → ((Value.slice A' (n + m) c').ownBlock = v.ownBlock ∨ (Value.slice A' (n + m) c').ownBlock = some w.heap.size) → K (a.put o.dst (.slice A' (n + m) c')) w') :
    if Region.wanted o (yielded ops a.tmps) = true then o.wp P a w K Q else E := by
  rw [if_pos (by simp [Region.wanted, hgd])]
  obtain ⟨A', c', w', hr, h2, h3, h5⟩ := ran_appB (P := P) base t o.type e i z size bytes ht hi hz hsize hby hzs hsz v n xs hown A m c news hS h63 hbytes hbase
  unfold Oper.wp execOp
  simp only [ho, resolve, invoke, builtin, Sem.run_bind, Sem.run_pure, Result.andThen_ok, List.map_toArray, List.map_cons, List.map_nil, hs, hx, hr]
  exact h A' c' w' h2 h3 (own_has hown) h5
end
end Go.Proofs.Ytegomldlkbgemaa
namespace Go.Proofs.Ytegomldlkbgemaa
open Go.RowKit
set_option linter.unusedVariables false
set_option maxRecDepth 100000

structure Sit where
  A1 : Option Addr
  o : List (Int × Int)
  c1 : Nat
  A2 : Option Addr
  q : List (Int × Int)
  c2 : Nat
  AB : Option Addr
  bk : List Cl
  cB : Nat
  dk : Int
  ds : Int
  dl : Bool
  dp : Bool
  df : Bool
  par : Int
  who : Int
  AJ : Option Addr
  jr : List Ev
  cJ : Nat
/-- what a site holds, wherever its rows lie -/
abbrev SCont := List (Int × Int) × List (Int × Int) × List (Int × List Int × List Bx) × (Int × Int × Bool × Bool × Bool) × Int × Int × List Ev
def contS (x : Sit) : SCont := (x.o, x.q, x.bk.map cont, (x.dk, x.ds, x.dl, x.dp, x.df), x.par, x.who, x.jr)
def sitC (x : Sit) : List Value := [.slice x.A1 x.o.length x.c1, .slice x.A2 x.q.length x.c2, .slice x.AB x.bk.length x.cB, .int .i64 x.dk, .int .i64 x.ds, .bool x.dl, .bool x.dp, .bool x.df, .int .i64 x.par, .int .i64 x.who, .slice x.AJ x.jr.length x.cJ]
/-- its slices read as its lists, below block B -/
structure SitV (w : World) (B : Nat) (x : Sit) : Prop where
  so : SL w B x.A1 x.o
  sq : SL w B x.A2 x.q
  kb : KL w B x.AB x.bk
  cv : ∀ y ∈ x.bk, CV w B y
  ej : evL w B x.AJ x.jr
  l1 : x.o.length ≤ maxLen
  l2 : x.q.length ≤ maxLen
  l3 : x.bk.length ≤ maxLen
  l4 : x.jr.length ≤ maxLen
theorem SitV.later {w w' : World} {B : Nat} {x : Sit} (h : SitV w B x) (hB : B ≤ w.heap.size) (hb : Below w.heap.size w w') : SitV w' B x :=
  ⟨h.so.later hB hb, h.sq.later hB hb, h.kb.later hB hb, fun y hy => (h.cv y hy).later hB hb, h.ej.later hB hb, h.l1, h.l2, h.l3, h.l4⟩
theorem SitV.more {w : World} {B B' : Nat} {x : Sit} (h : SitV w B x) (hB : B ≤ B') : SitV w B' x :=
  ⟨h.so.more hB, h.sq.more hB, h.kb.more hB, fun y hy => (h.cv y hy).more hB, h.ej.more hB, h.l1, h.l2, h.l3, h.l4⟩
/-- how many elements its lists have -/
def szSit (x : Sit) : Nat := x.o.length + x.q.length + (x.bk.length + totK x.bk) + x.jr.length
/-- its rows lie in a range of blocks, apart from one another -/
def SitAt (w : World) (lo hi : Nat) (x : Sit) : Prop := ∃ m1 m2 m3, lo ≤ m1 ∧ m1 ≤ m2 ∧ m2 ≤ m3 ∧ m3 ≤ hi ∧ OI w lo m1 121 x.A1 (spnV x.o) ∧ OI w m1 m2 121 x.A2 (spnV x.q) ∧ BankAt w m2 m3 x.AB x.bk ∧ OI w m3 hi 88 x.AJ (evV x.jr)
theorem SitAt.call {w w' : World} {lo hi : Nat} {x : Sit} (h : SitAt w lo hi x) (hb : Below w.heap.size w w') : SitAt w' lo hi x := by
  obtain ⟨m1, m2, m3, h1, h2, h3, h4, a, b, c, d⟩ := h
  exact ⟨m1, m2, m3, h1, h2, h3, h4, a.call hb, b.call hb, c.call hb, d.call hb⟩
theorem SitAt.setlow {w : World} {lo hi : Nat} {x : Sit} (h : SitAt w lo hi x) {p : Addr} (hp : p.block < lo) (v : Value) : SitAt (w.setCell p v) lo hi x := by
  obtain ⟨m1, m2, m3, h1, h2, h3, h4, a, b, c, d⟩ := h
  refine ⟨m1, m2, m3, h1, h2, h3, h4, a.setlow hp v, b.setlow (by omega) v, ⟨c.1.setlow (by omega) v, ?_⟩, d.setlow (by omega) v⟩
  obtain ⟨f, hf⟩ := c.2
  exact ⟨f, hf.setlow (by omega) v⟩
theorem SitAt.wider {w : World} {lo hi hi' : Nat} {x : Sit} (h : SitAt w lo hi x) (h2 : hi ≤ hi') : SitAt w lo hi' x := by
  obtain ⟨m1, m2, m3, h1, h2', h3, h4, a, b, c, d⟩ := h
  exact ⟨m1, m2, m3, h1, h2', h3, by omega, a, b, c, d.wider (Nat.le_refl _) (by omega)⟩
theorem SitAt.lower {w : World} {lo lo' hi : Nat} {x : Sit} (h : SitAt w lo hi x) (h2 : lo' ≤ lo) : SitAt w lo' hi x := by
  obtain ⟨m1, m2, m3, h1, h2', h3, h4, a, b, c, d⟩ := h
  exact ⟨m1, m2, m3, by omega, h2', h3, by omega, a.wider h2 (Nat.le_refl _), b, c, d⟩
theorem sl_of {w : World} {B : Nat} {A : Option Addr} {l : List (Int × Int)} (h : spnL w B A l) : SL w B A l := h
theorem SitAt.v {w : World} {lo hi : Nat} {x : Sit} (h : SitAt w lo hi x) (hs : szSit x ≤ 1048576) : SitV w w.heap.size x := by
  obtain ⟨m1, m2, m3, h1, h2', h3, h4, a, b, c, d⟩ := h
  unfold szSit at hs
  exact ⟨sl_of a.spn, sl_of b.spn, c.kl, c.cv (small_tot (by omega)), d.ev, by unfold maxLen; omega, by unfold maxLen; omega, by unfold maxLen; omega, by unfold maxLen; omega⟩

set_option maxHeartbeats 1000000 in
theorem toWeekR_any (w : World) (B : Nat) (A A' : Option Addr) (n n' : Nat) (o c : List (Int × Int)) (ho : o.length ≤ 1048576) (hc : c.length ≤ 1048576) (hB : B ≤ w.heap.size) (hS : SL w B A o) (hS' : SL w B A' c) :
    Calls Try.prog 37 #[.agg #[.slice A o.length n, .slice A' c.length n']] w fun e w' => ∃ A2 A2' c2 c2' m, e = .returned (.agg #[.slice A2 o.length c2, .slice A2' c.length c2']) ∧ w.heap.size ≤ m ∧ m ≤ w'.heap.size ∧ OI w' w.heap.size m 121 A2 (spnV o) ∧ OI w' m w'.heap.size 121 A2' (spnV c) ∧ Below w.heap.size w w' := by
  have HS := Lib.hid hS; clear hS
  have HS' := Lib.hid hS'; clear hS'
  have hb3 : ∀ o1 o2 o3, Below w.heap.size w (((w.alloc o1).alloc o2).alloc o3) := fun o1 o2 o3 => bthen (bthen (balloc w o1) (balloc _ o2)) (balloc _ o3)
  have H3 := Lib.hid hb3; clear hb3
  go_enter Try.func37, Try.ntmps37
  go_wp2_with fail
  generalize hW0 : (((w.alloc (.cells #[.slice A o.length n, .slice A' c.length n'] 61)).alloc (.cells #[.slice none 0 0, .slice none 0 0] 69)).alloc (.cells #[.slice none 0 0, .slice none 0 0] 69)) = w0
  have b0 : Below w.heap.size w w0 := by rw [← hW0]; exact H3.out _ _ _
  have k1 : Has w0 (w.heap.size + 1) 69 #[.slice none 0 0, .slice none 0 0] := by rw [← hW0]; have := has_alloc (has_new (w.alloc (.cells #[.slice A o.length n, .slice A' c.length n'] 61)) 69 #[.slice none 0 0, .slice none 0 0]) (.cells #[.slice none 0 0, .slice none 0 0] 69); simpa using this
  have k2 : Has w0 (w.heap.size + 1 + 1) 69 #[.slice none 0 0, .slice none 0 0] := by rw [← hW0]; have := has_new ((w.alloc (.cells #[.slice A o.length n, .slice A' c.length n'] 61)).alloc (.cells #[.slice none 0 0, .slice none 0 0] 69)) 69 #[.slice none 0 0, .slice none 0 0]; simpa using this
  have k0 : Has w0 w.heap.size 61 #[.slice A o.length n, .slice A' c.length n'] := by rw [← hW0]; exact has_alloc (has_alloc (has_new _ _ _) _) _
  clear hW0
  have hz0 := has_lt k2
  refine (spnTo_any w0 B A n o ho (by omega) (HS.out.later hB b0)).mono ?_
  rintro e w1 ⟨A2, c2, rfl, ho1, hb1⟩
  have HO1 := Lib.hid (OI.of_or ho1); clear ho1
  have m0 := has_call k0 hb1; have m1 := has_call k1 hb1; have m2 := has_call k2 hb1
  have hbx := bthen b0 hb1
  have hsz1 := hb1.size
  have e1 := has_cell m0 1 rfl
  have e2 := has_cell m2 0 rfl
  have f2 := has_free m2 0
  have l0 := has_lt m0
  have M1 := Lib.hid m1; have M2 := Lib.hid m2; clear m0 m1 m2 k0 k1 k2 hb1
  go_wp2_with fail
  clear e1 e2 f2
  generalize hW1 : (w1.setCell ⟨w.heap.size + 1 + 1, 0, none⟩ (.slice A2 o.length c2)) = w1'
  have bw : Below w.heap.size w w1' := by rw [← hW1]; exact hbx.setCell (by simp; omega) _
  have n1 : Has w1' (w.heap.size + 1) 69 #[.slice none 0 0, .slice none 0 0] := by rw [← hW1]; exact has_far M1.out (by simp) _
  have n2 : Has w1' (w.heap.size + 1 + 1) 69 #[.slice A2 o.length c2, .slice none 0 0] := by rw [← hW1]; have := has_set M2.out 0 (.slice A2 o.length c2); simpa using this
  have hsz1' : w1'.heap.size = w1.heap.size := by rw [← hW1, size_set]
  have o1 : OI w1' w0.heap.size w1.heap.size 121 A2 (spnV o) := by rw [← hW1]; exact OI.setlow HO1.out (by simp; omega) _
  clear hW1 M1 M2 HO1
  have O1 := Lib.hid o1; clear o1
  refine (spnTo_any w1' B A' n' c hc (by omega) (HS'.out.later hB bw)).mono ?_
  rintro e w2 ⟨A3, c3, rfl, ho2, hb2⟩
  have HO2 := Lib.hid (OI.of_or ho2); clear ho2
  have O2 := Lib.hid (O1.out.call hb2); clear O1
  have p1 := has_call n1 hb2
  have p2 := has_call n2 hb2
  have hsz2 := hb2.size
  have e1 := has_cell p2 0 rfl
  have e2 := has_cell p2 1 rfl
  have e3 := has_cell p1 0 rfl
  have e4 := has_cell p1 1 rfl
  have f1 := has_free p2 1
  have f3 := has_free p1 0
  have f4 := has_free p1 1
  have P1 := Lib.hid p1; have P2 := Lib.hid p2; clear p1 p2 n1 n2
  have HB2 := Lib.hid (bw.trans (hb2.mono bw.size)); clear hb2 bw
  have SZ := Lib.hid hsz1'; clear hsz1'
  go_wp2_with fail
  clear e1 e2 e3 e4 f1 f3 f4
  have q1 : Has (((w2.setCell ⟨w.heap.size + 1 + 1, 1, none⟩ (.slice A3 c.length c3)).setCell ⟨w.heap.size + 1, 0, none⟩ (.slice A2 o.length c2)).setCell ⟨w.heap.size + 1, 1, none⟩ (.slice A3 c.length c3)) (w.heap.size + 1) 69 #[.slice A2 o.length c2, .slice A3 c.length c3] := by
    have := has_set (has_set (has_far P1.out (p := ⟨w.heap.size + 1 + 1, 1, none⟩) (by simp) (.slice A3 c.length c3)) 0 (.slice A2 o.length c2)) 1 (.slice A3 c.length c3)
    simpa using this
  have g0 := has_cell q1 0 rfl
  have g1 := has_cell q1 1 rfl
  have hz1 := SZ.out
  refine bodyPost_ret (v := .agg #[.slice A2 o.length c2, .slice A3 c.length c3]) (by simp [results, Try.results37, go_sem, g0, g1]) rfl ⟨A2, A3, c2, c3, w1.heap.size, rfl, by omega, by simp only [size_set]; omega, ?_, ?_, ?_⟩
  · exact (((O2.out.wider (show w.heap.size + 1 + 1 + 1 ≤ _ by omega) (Nat.le_refl _)).setlow (p := ⟨w.heap.size + 1 + 1, 1, none⟩) (by simp) _).setlow (p := ⟨w.heap.size + 1, 0, none⟩) (by simp) _).setlow (p := ⟨w.heap.size + 1, 1, none⟩) (by simp) _ |>.wider (by omega) (Nat.le_refl _)
  · simp only [size_set]
    exact (((HO2.out.wider (show w1.heap.size ≤ _ by omega) (Nat.le_refl _)).setlow (p := ⟨w.heap.size + 1 + 1, 1, none⟩) (by simp; omega) _).setlow (p := ⟨w.heap.size + 1, 0, none⟩) (by simp; omega) _).setlow (p := ⟨w.heap.size + 1, 1, none⟩) (by simp; omega) _
  · exact ((HB2.out.setCell (by simp; omega) _).setCell (by simp) _).setCell (by simp) _

set_option maxRecDepth 100000 in
set_option maxHeartbeats 1000000 in
theorem szBkL_any (w : World) (B : Nat) (A : Option Addr) (c : Nat) (l : List Cl) (hl : l.length ≤ maxLen) (hB : B ≤ w.heap.size) (hS : KL w B A l) (hV : ∀ x ∈ l, CV w B x) (left : Int) (hl0 : 0 ≤ left) (hl1 : left ≤ 1048576) :
    Calls Try.prog 36 #[.slice A l.length c, .int .i64 left] w fun e w' => ∃ r, e = .returned (.int .i64 r) ∧ (r = -1 ∨ (0 ≤ r ∧ r = left - ((l.length + totK l : Nat) : Int))) ∧ Below w.heap.size w w' := by
  unfold maxLen at hl
  have HS := Lib.hid hS; have HV := Lib.hid hV; clear hS hV
  by_cases hbig : left < l.length
  · go_enter Try.func36, Try.ntmps36
    go_wp2
    go_ret
    exact ⟨-1, rfl, .inl rfl, Below.refl _ _⟩
  · have hl2 : l.length ≤ 1048576 := by omega
    go_enter Try.func36, Try.ntmps36
    go_wp2
    go_loopw [1, 5] (fun lv i wr => ∃ (k : Nat) (r : Int), k ≤ l.length ∧ i = .int .i64 k ∧ lv = .int .i64 r ∧ 0 ≤ r ∧ r + l.length + totK (l.take k) = left ∧ Below w.heap.size w wr) (fun _ i _ => l.length - (intOf i).toNat)
    case atStart => exact ⟨0, _, Nat.zero_le _, rfl, rfl, by omega, by simp [totK], Below.refl _ _⟩
    case round =>
      obtain ⟨k, r, hk, rfl, rfl, hr0, hsm, hb⟩ := hrel
      have hr1 : r ≤ 1048576 := by omega
      have HSM := Lib.hid hsm; clear hsm
      have hsz := hb.size
      by_cases hlt : k < l.length
      · obtain ⟨b, off, x, rfl, hbB, hx, hc0, hc1, hc2⟩ := (HS.out.later hB hb).at_ hlt
        have hv := HV.out x (List.mem_of_getElem? hx)
        by_cases hbd : r < x.F.length + x.L.length
        · have hs : szC r x.F.length x.L.length = -1 := if_pos (by omega)
          have Hs := Lib.hid hs; clear hs hx
          go_wp2_with fail
          refine (szColumn_any wr x.AF x.AB x.F.length x.cF x.L.length x.cB x.z r hv.lf hv.lb hr0 hr1).mono ?_
          rintro e w1 ⟨rfl, hb1⟩
          rw [Hs.out]
          go_wp2
          go_ret
          exact ⟨-1, rfl, .inl rfl, bthen hb hb1⟩
        · have hs : szC r x.F.length x.L.length = r - x.F.length - x.L.length := if_neg (by omega)
          have Hs := Lib.hid hs; clear hs
          have hsx := totK_succ hx
          have HSX := Lib.hid hsx; clear hsx hx
          go_wp2_with fail
          refine (szColumn_any wr x.AF x.AB x.F.length x.cF x.L.length x.cB x.z r hv.lf hv.lb hr0 hr1).mono ?_
          rintro e w1 ⟨rfl, hb1⟩
          rw [Hs.out]
          go_wp2
          go_roundw
          case rel => exact ⟨k + 1, _, by omega, by go_num, rfl, by omega, by have h1 := HSX.out; have h2 := HSM.out; omega, bthen hb hb1⟩
          case measure => simp [intOf]; omega
      · go_wp2
        go_ret
        have hkl : k = l.length := by omega
        subst hkl
        have := HSM.out
        rw [List.take_length] at this
        exact ⟨r, rfl, .inr ⟨hr0, by omega⟩, hb⟩

end Go.Proofs.Ytegomldlkbgemaa
