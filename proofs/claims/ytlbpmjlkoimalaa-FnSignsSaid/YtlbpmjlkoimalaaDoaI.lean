/- Chapter 4: the contract of the program's DoActs. -/
import Derived.Test.YtlbpmjlkoimalaaDoaN
import Derived.Test.YtlbpmjlkoimalaaRng
import Derived.Test.YtlbpmjlkoimalaaOwn
import Derived.Deep.DeepCutAuto
import Derived.Laws.StructEq
namespace Go.Proofs.Ytlbpmjlkoimalaa
open Go.RowKit
set_option linter.unusedVariables false
theorem src_int {w : World} {g : Nat} {x : Int} {t : TypeId} (h : Has w g t #[.int .i64 x]) : Src w (some ⟨g, 0, none⟩) 1 1 [.int .i64 x] := by
  refine ⟨rfl, by simp [Value.oneCell'], (fun e => by cases e), fun ad e j u hu => ?_⟩
  injection e with e; subst e
  match j with
  | 0 => simp at hu; subst hu; exact has_cell h 0 rfl
  | j + 1 => simp at hu
def DoaAns (x : Dr × List Int) (w : World) (e : Ending) (w' : World) : Prop :=
  ∃ A' c', e = .returned (.tuple #[.agg x.1.A, .slice A' x.2.length c']) ∧ OR w' w.heap.size 3 A' (intV x.2) ∧ Below w.heap.size w w'
theorem only_of_below {w w' : World} {g : Nat} (h : Below w.heap.size w w') : Only w g w' := ⟨h.os, h.tape, h.output, h.size, fun k hk _ => h.block k hk⟩
theorem only_trans_d {a b c : World} {g : Nat} (h : Only a g b) (h' : Only b g c) : Only a g c := ⟨h'.os.trans h.os, h'.tape.trans h.tape, h'.output.trans h.output, Nat.le_trans h.size h'.size, fun k hk hne => (h'.block k (Nat.lt_of_lt_of_le hk h.size) hne).trans (h.block k hk hne)⟩
theorem own_keep {w w' : World} {base g : Nat} {e : TypeId} {size n : Nat} {v : Value} {xs : List Value} (h : w.ownsRow base e size v n xs) (ho : Only w g w') (hg : g < base) : w'.ownsRow base e size v n xs := by
  refine h.kept ho ?_
  cases hb : v.ownBlock with
  | none => exact .inl rfl
  | some b => exact .inr (fun e => by injection e with e; have := (h.lt b hb).1; omega)
theorem has_only_d {w w' : World} {g h : Nat} {t : TypeId} {cs : Array Value} (k : Has w h t cs) (ho : Only w g w') (hne : h ≠ g) : Has w' h t cs := (ho.block h (has_lt k) (fun e => hne (by injection e))).trans k
theorem or_of_own {w : World} {base : Nat} {e : TypeId} {A : Option Addr} {xs : List Value} {size n c : Nat} (h : w.ownsRow base e size (.slice A n c) n xs) : OR w base e A xs := by
  obtain ⟨A', c', e', h'⟩ := or_own h
  injection e' with e1 e2 e3; subst e1; exact h'
theorem hset5 {W : World} {r : Nat} {T : TypeId} {x0 x1 x2 x3 x4 : Value} (h : Has W r T #[x0, x1, x2, x3, x4]) (a b c d e : Value) : Has (((((W.setCell ⟨r, 0, none⟩ a).setCell ⟨r, 1, none⟩ b).setCell ⟨r, 2, none⟩ c).setCell ⟨r, 3, none⟩ d).setCell ⟨r, 4, none⟩ e) r T #[a, b, c, d, e] := by
  simpa using has_set (has_set (has_set (has_set (has_set h 0 a) 1 b) 2 c) 3 d) 4 e
theorem oset5 {w0 W : World} {r : Nat} (h : Only w0 r W) (a b c d e : Value) : Only w0 r (((((W.setCell ⟨r, 0, none⟩ a).setCell ⟨r, 1, none⟩ b).setCell ⟨r, 2, none⟩ c).setCell ⟨r, 3, none⟩ d).setCell ⟨r, 4, none⟩ e) :=
  only_set (only_set (only_set (only_set (only_set h 0 a) 1 b) 2 c) 3 d) 4 e
theorem bset5 {w W : World} {B r : Nat} (hr : B ≤ r) (a b c d e : Value) (hb : Below B w W) : Below B w (((((W.setCell ⟨r, 0, none⟩ a).setCell ⟨r, 1, none⟩ b).setCell ⟨r, 2, none⟩ c).setCell ⟨r, 3, none⟩ d).setCell ⟨r, 4, none⟩ e) :=
  ((((hb.setCell hr _).setCell hr _).setCell hr _).setCell hr _).setCell hr _
theorem doa_ne {A' : Option Addr} {n c : Nat} {x : Dr × List Int} {k s : Int} {l o f : Bool} {m : List Int} (h : x = (⟨k, s, l, o, f⟩, m)) (hn : n = m.length) : Ending.returned (.tuple #[.agg #[.int .i64 k, .int .i64 s, .bool l, .bool o, .bool f], .slice A' n c]) = .returned (.tuple #[.agg x.1.A, .slice A' x.2.length c]) := by subst h; subst hn; rfl
end Go.Proofs.Ytlbpmjlkoimalaa
