/- Chapter 4: the contract of the program's DoActs. -/
import Derived.Test.YtaeonangkbhmgaaDoaN
import Derived.Test.YtaeonangkbhmgaaRng
import Derived.Test.YtaeonangkbhmgaaOwn
import Derived.Deep.DeepCutAuto
import Derived.Laws.StructEq
namespace Go.Proofs.Ytaeonangkbhmgaa
open Go.RowKit
set_option linter.unusedVariables false
theorem src_int {w : World} {g : Nat} {x : Int} {t : TypeId} (h : Has w g t #[.int .i64 x]) : Src w (some ⟨g, 0, none⟩) 1 1 [.int .i64 x] := by
  refine ⟨rfl, by simp [Value.oneCell'], (fun e => by cases e), fun ad e j u hu => ?_⟩
  injection e with e; subst e
  match j with
  | 0 => simp at hu; subst hu; exact has_cell h 0 rfl
  | j + 1 => simp at hu
def DoaAns (x : Dr × List Int) (w : World) (e : Ending) (w' : World) : Prop :=
  ∃ A' c', e = .returned (.tuple #[.agg x.1.A, .slice A' x.2.length c']) ∧ OR w' w.heap.size 3 A' (intV x.2) ∧ Below w.heap.size w w'
theorem only_of_below {w w' : World} {g : Nat} (h : Below w.heap.size w w') : Only w g w' := ⟨h.os, h.tape, h.output, h.size, fun k hk _ => h.block k hk⟩
theorem only_trans_d {a b c : World} {g : Nat} (h : Only a g b) (h' : Only b g c) : Only a g c := ⟨h'.os.trans h.os, h'.tape.trans h.tape, h'.output.trans h.output, Nat.le_trans h.size h'.size, fun k hk hne => (h'.block k (Nat.lt_of_lt_of_le hk h.size) hne).trans (h.block k hk hne)⟩
theorem own_keep {w w' : World} {base g : Nat} {e : TypeId} {size n : Nat} {v : Value} {xs : List Value} (h : w.ownsRow base e size v n xs) (ho : Only w g w') (hg : g < base) : w'.ownsRow base e size v n xs := by
  refine h.kept ho ?_
  cases hb : v.ownBlock with
  | none => exact .inl rfl
  | some b => exact .inr (fun e => by injection e with e; have := (h.lt b hb).1; omega)
theorem has_only_d {w w' : World} {g h : Nat} {t : TypeId} {cs : Array Value} (k : Has w h t cs) (ho : Only w g w') (hne : h ≠ g) : Has w' h t cs := (ho.block h (has_lt k) (fun e => hne (by injection e))).trans k
theorem or_of_own {w : World} {base : Nat} {e : TypeId} {A : Option Addr} {xs : List Value} {size n c : Nat} (h : w.ownsRow base e size (.slice A n c) n xs) : OR w base e A xs := by
  obtain ⟨A', c', e', h'⟩ := or_own h
  injection e' with e1 e2 e3; subst e1; exact h'
theorem hset5 {W : World} {r : Nat} {T : TypeId} {x0 x1 x2 x3 x4 : Value} (h : Has W r T #[x0, x1, x2, x3, x4]) (a b c d e : Value) : Has (((((W.setCell ⟨r, 0, none⟩ a).setCell ⟨r, 1, none⟩ b).setCell ⟨r, 2, none⟩ c).setCell ⟨r, 3, none⟩ d).setCell ⟨r, 4, none⟩ e) r T #[a, b, c, d, e] := by
  simpa using has_set (has_set (has_set (has_set (has_set h 0 a) 1 b) 2 c) 3 d) 4 e
theorem oset5 {w0 W : World} {r : Nat} (h : Only w0 r W) (a b c d e : Value) : Only w0 r (((((W.setCell ⟨r, 0, none⟩ a).setCell ⟨r, 1, none⟩ b).setCell ⟨r, 2, none⟩ c).setCell ⟨r, 3, none⟩ d).setCell ⟨r, 4, none⟩ e) :=
  only_set (only_set (only_set (only_set (only_set h 0 a) 1 b) 2 c) 3 d) 4 e
theorem bset5 {w W : World} {B r : Nat} (hr : B ≤ r) (a b c d e : Value) (hb : Below B w W) : Below B w (((((W.setCell ⟨r, 0, none⟩ a).setCell ⟨r, 1, none⟩ b).setCell ⟨r, 2, none⟩ c).setCell ⟨r, 3, none⟩ d).setCell ⟨r, 4, none⟩ e) :=
  ((((hb.setCell hr _).setCell hr _).setCell hr _).setCell hr _).setCell hr _
theorem doa_ne {A' : Option Addr} {n c : Nat} {x : Dr × List Int} {k s : Int} {l o f : Bool} {m : List Int} (h : x = (⟨k, s, l, o, f⟩, m)) (hn : n = m.length) : Ending.returned (.tuple #[.agg #[.int .i64 k, .int .i64 s, .bool l, .bool o, .bool f], .slice A' n c]) = .returned (.tuple #[.agg x.1.A, .slice A' x.2.length c]) := by subst h; subst hn; rfl
set_option maxRecDepth 100000 in
set_option maxHeartbeats 4000000 in
theorem doaI_no1 (w : World) (B : Nat) (k s : Int) (l o f : Bool) (A : Option Addr) (c : Nat) (L : List Int) (hl : L.length ≤ maxLen) (hB : B ≤ w.heap.size) (hS : IL w B A L) (hok : doorB k s l o f = false) : Calls Try.prog 15 #[.agg #[.int .i64 k, .int .i64 s, .bool l, .bool o, .bool f], .slice A L.length c] w (DoaAns (doActs ⟨k, s, l, o, f⟩ L) w) := by
  have HV := Lib.hid (doActs_no1 (d := ⟨k, s, l, o, f⟩) (l := L) hok)
  have HK := Lib.hid hok; clear hok
  have HS := Lib.hid hS; clear hS
  go_enter Try.func15, Try.ntmps15
  go_wp2_with fail
  generalize hX : (w.alloc (.cells #[.int .i64 k, .int .i64 s, .bool l, .bool o, .bool f] 27)) = w1
  have hb : Below w.heap.size w w1 := by rw [← hX]; exact balloc _ _
  have hk : Has w1 w.heap.size 27 #[.int .i64 k, .int .i64 s, .bool l, .bool o, .bool f] := by rw [← hX]; exact has_new _ _ _
  have hzw1 : w1.heap.size = w.heap.size + 1 := by rw [← hX]; simp
  clear hX
  have zb := hb; clear hb
  have za := hk; clear hk
  generalize hX : (w1.alloc (.cells #[.int .i64 0, .int .i64 0, .bool false, .bool false, .bool false] 27)) = w2
  have hb : Below w1.heap.size w1 w2 := by rw [← hX]; exact balloc _ _
  have hk : Has w2 w1.heap.size 27 #[.int .i64 0, .int .i64 0, .bool false, .bool false, .bool false] := by rw [← hX]; exact has_new _ _ _
  have hzw2 : w2.heap.size = w.heap.size + 2 := by rw [← hX]; simp [hzw1]
  clear hX
  rw [hzw1] at hk
  replace za := has_call za hb
  replace zb := bthen zb hb; clear hb
  have zr := hk; clear hk
  clear hzw1
  generalize hX : (w2.alloc (.cells #[] 3)) = w3
  have hb : Below w2.heap.size w2 w3 := by rw [← hX]; exact balloc _ _
  have OW := Lib.hid (show w3.ownsRow (w.heap.size + 2) 3 1 (.slice (some ⟨w.heap.size + 1 + 1, 0, none⟩) 0 0) 0 [] from by rw [← hX]; exact owns_at _ _ _ _ _ (by omega) (by omega))
  clear hzw2
  clear hX
  replace za := has_call za hb
  replace zr := has_call zr hb
  replace zb := bthen zb hb; clear hb
  refine (doorI_any _ k s l o f).mono ?_
  rintro e w4 ⟨rfl, hb⟩
  rw [HK.out]
  have ow9 := own_keep OW.out (g := w.heap.size) (only_of_below hb) (by omega); clear OW; have OW := Lib.hid ow9; clear ow9
  replace za := has_call za hb
  replace zr := has_call zr hb
  replace zb := bthen zb hb; clear hb
  have zac0 := has_cell za 0 rfl; have zac1 := has_cell za 1 rfl; have zac2 := has_cell za 2 rfl; have zac3 := has_cell za 3 rfl; have zac4 := has_cell za 4 rfl
  have zaf0 := has_free za 0; have zaf1 := has_free za 1; have zaf2 := has_free za 2; have zaf3 := has_free za 3; have zaf4 := has_free za 4
  have zalt := has_lt za
  have zrc0 := has_cell zr 0 rfl; have zrc1 := has_cell zr 1 rfl; have zrc2 := has_cell zr 2 rfl; have zrc3 := has_cell zr 3 rfl; have zrc4 := has_cell zr 4 rfl
  have zrf0 := has_free zr 0; have zrf1 := has_free zr 1; have zrf2 := has_free zr 2; have zrf3 := has_free zr 3; have zrf4 := has_free zr 4
  have zrlt := has_lt zr
  have ZAH := Lib.hid za; clear za
  have ZRH := Lib.hid zr; clear zr
  have ZB := Lib.hid zb; clear zb
  go_wp2_with fail
  refine bodyPost_ret (v := .tuple #[.agg #[.int .i64 k, .int .i64 s, .bool l, .bool o, .bool f], .slice (some ⟨w.heap.size + 1 + 1, 0, none⟩) 0 0]) (by simp [results, Try.results15, go_sem, zac0, zac1, zac2, zac3, zac4, zaf0, zaf1, zaf2, zaf3, zaf4, zalt, zrc0, zrc1, zrc2, zrc3, zrc4, zrf0, zrf1, zrf2, zrf3, zrf4, zrlt]) rfl ⟨_, _, doa_ne HV.out rfl, ?_, ?_⟩
  · rw [HV.out]; exact .inl rfl
  · repeat (first | (with_reducible exact ZB.out) | (with_reducible refine Below.alloc ?_ (by have h9 := ZB.out.size; simp <;> omega) _) | (with_reducible refine Below.drew ?_) | (with_reducible refine Below.setCell ?_ (by first | exact Nat.le_refl _ | exact Nat.le_add_right _ _ | (simp <;> omega)) _))
set_option maxRecDepth 100000 in
set_option maxHeartbeats 4000000 in
theorem doaI_no2 (w : World) (B : Nat) (k s : Int) (l o f : Bool) (A : Option Addr) (c : Nat) (L : List Int) (hl : L.length ≤ maxLen) (hB : B ≤ w.heap.size) (hS : IL w B A L) (hok : doorB k s l o f = true) (ha : actsB L = false) : Calls Try.prog 15 #[.agg #[.int .i64 k, .int .i64 s, .bool l, .bool o, .bool f], .slice A L.length c] w (DoaAns (doActs ⟨k, s, l, o, f⟩ L) w) := by
  have HV := Lib.hid (doActs_no2 (d := ⟨k, s, l, o, f⟩) (l := L) ha)
  have HK := Lib.hid hok; clear hok
  have HA := Lib.hid ha; clear ha
  have HS := Lib.hid hS; clear hS
  go_enter Try.func15, Try.ntmps15
  go_wp2_with fail
  generalize hX : (w.alloc (.cells #[.int .i64 k, .int .i64 s, .bool l, .bool o, .bool f] 27)) = w1
  have hb : Below w.heap.size w w1 := by rw [← hX]; exact balloc _ _
  have hk : Has w1 w.heap.size 27 #[.int .i64 k, .int .i64 s, .bool l, .bool o, .bool f] := by rw [← hX]; exact has_new _ _ _
  have hzw1 : w1.heap.size = w.heap.size + 1 := by rw [← hX]; simp
  clear hX
  have zb := hb; clear hb
  have za := hk; clear hk
  generalize hX : (w1.alloc (.cells #[.int .i64 0, .int .i64 0, .bool false, .bool false, .bool false] 27)) = w2
  have hb : Below w1.heap.size w1 w2 := by rw [← hX]; exact balloc _ _
  have hk : Has w2 w1.heap.size 27 #[.int .i64 0, .int .i64 0, .bool false, .bool false, .bool false] := by rw [← hX]; exact has_new _ _ _
  have hzw2 : w2.heap.size = w.heap.size + 2 := by rw [← hX]; simp [hzw1]
  clear hX
  rw [hzw1] at hk
  replace za := has_call za hb
  replace zb := bthen zb hb; clear hb
  have zr := hk; clear hk
  clear hzw1
  generalize hX : (w2.alloc (.cells #[] 3)) = w3
  have hb : Below w2.heap.size w2 w3 := by rw [← hX]; exact balloc _ _
  have OW := Lib.hid (show w3.ownsRow (w.heap.size + 2) 3 1 (.slice (some ⟨w.heap.size + 1 + 1, 0, none⟩) 0 0) 0 [] from by rw [← hX]; exact owns_at _ _ _ _ _ (by omega) (by omega))
  clear hzw2
  clear hX
  replace za := has_call za hb
  replace zr := has_call zr hb
  replace zb := bthen zb hb; clear hb
  refine (doorI_any _ k s l o f).mono ?_
  rintro e w4 ⟨rfl, hb⟩
  rw [HK.out]
  have ow9 := own_keep OW.out (g := w.heap.size) (only_of_below hb) (by omega); clear OW; have OW := Lib.hid ow9; clear ow9
  replace za := has_call za hb
  replace zr := has_call zr hb
  replace zb := bthen zb hb; clear hb
  have zac0 := has_cell za 0 rfl; have zac1 := has_cell za 1 rfl; have zac2 := has_cell za 2 rfl; have zac3 := has_cell za 3 rfl; have zac4 := has_cell za 4 rfl
  have zaf0 := has_free za 0; have zaf1 := has_free za 1; have zaf2 := has_free za 2; have zaf3 := has_free za 3; have zaf4 := has_free za 4
  have zalt := has_lt za
  have zrc0 := has_cell zr 0 rfl; have zrc1 := has_cell zr 1 rfl; have zrc2 := has_cell zr 2 rfl; have zrc3 := has_cell zr 3 rfl; have zrc4 := has_cell zr 4 rfl
  have zrf0 := has_free zr 0; have zrf1 := has_free zr 1; have zrf2 := has_free zr 2; have zrf3 := has_free zr 3; have zrf4 := has_free zr 4
  have zrlt := has_lt zr
  have ZAH := Lib.hid za; clear za
  have ZRH := Lib.hid zr; clear zr
  have ZB := Lib.hid zb; clear zb
  go_wp2_with fail
  clear zac0 zac1 zac2 zac3 zac4 zaf0 zaf1 zaf2 zaf3 zaf4 zalt zrc0 zrc1 zrc2 zrc3 zrc4 zrf0 zrf1 zrf2 zrf3 zrf4 zrlt
  have za := ZAH.out; clear ZAH
  have zr := ZRH.out; clear ZRH
  have zb := ZB.out; clear ZB
  refine (actsI_any _ B A c L hl ((HS.out.below (zb.mono hB)))).mono ?_
  rintro e w5 ⟨rfl, hw⟩
  rw [hw]; clear hw w5
  rw [HA.out]
  have zac0 := has_cell za 0 rfl; have zac1 := has_cell za 1 rfl; have zac2 := has_cell za 2 rfl; have zac3 := has_cell za 3 rfl; have zac4 := has_cell za 4 rfl
  have zaf0 := has_free za 0; have zaf1 := has_free za 1; have zaf2 := has_free za 2; have zaf3 := has_free za 3; have zaf4 := has_free za 4
  have zalt := has_lt za
  have zrc0 := has_cell zr 0 rfl; have zrc1 := has_cell zr 1 rfl; have zrc2 := has_cell zr 2 rfl; have zrc3 := has_cell zr 3 rfl; have zrc4 := has_cell zr 4 rfl
  have zrf0 := has_free zr 0; have zrf1 := has_free zr 1; have zrf2 := has_free zr 2; have zrf3 := has_free zr 3; have zrf4 := has_free zr 4
  have zrlt := has_lt zr
  have ZAH := Lib.hid za; clear za
  have ZRH := Lib.hid zr; clear zr
  have ZB := Lib.hid zb; clear zb
  go_wp2_with fail
  refine bodyPost_ret (v := .tuple #[.agg #[.int .i64 k, .int .i64 s, .bool l, .bool o, .bool f], .slice (some ⟨w.heap.size + 1 + 1, 0, none⟩) 0 0]) (by simp [results, Try.results15, go_sem, zac0, zac1, zac2, zac3, zac4, zaf0, zaf1, zaf2, zaf3, zaf4, zalt, zrc0, zrc1, zrc2, zrc3, zrc4, zrf0, zrf1, zrf2, zrf3, zrf4, zrlt]) rfl ⟨_, _, doa_ne HV.out rfl, ?_, ?_⟩
  · rw [HV.out]; exact .inl rfl
  · repeat (first | (with_reducible exact ZB.out) | (with_reducible refine Below.alloc ?_ (by have h9 := ZB.out.size; simp <;> omega) _) | (with_reducible refine Below.drew ?_) | (with_reducible refine Below.setCell ?_ (by first | exact Nat.le_refl _ | exact Nat.le_add_right _ _ | (simp <;> omega)) _))
set_option maxRecDepth 100000 in
set_option maxHeartbeats 4000000 in
theorem doaI_yes (w : World) (B : Nat) (k s : Int) (l o f : Bool) (A : Option Addr) (c : Nat) (L : List Int) (hl : L.length ≤ maxLen) (hB : B ≤ w.heap.size) (hS : IL w B A L) (hok : doorB k s l o f = true) (ha : actsB L = true) : Calls Try.prog 15 #[.agg #[.int .i64 k, .int .i64 s, .bool l, .bool o, .bool f], .slice A L.length c] w (DoaAns (doActs ⟨k, s, l, o, f⟩ L) w) := by
  have HV := Lib.hid (doActs_yes (d := ⟨k, s, l, o, f⟩) (l := L) hok ha)
  have hlen := actsB_len ha
  have HAT := Lib.hid (fun (i : Nat) (a : Int) (h : L[i]? = some a) => actsB_at ha h)
  have HK := Lib.hid hok; clear hok
  have HA := Lib.hid ha; clear ha
  have HS := Lib.hid hS; clear hS
  go_enter Try.func15, Try.ntmps15
  go_wp2_with fail
  generalize hX : (w.alloc (.cells #[.int .i64 k, .int .i64 s, .bool l, .bool o, .bool f] 27)) = w1
  have hb : Below w.heap.size w w1 := by rw [← hX]; exact balloc _ _
  have hk : Has w1 w.heap.size 27 #[.int .i64 k, .int .i64 s, .bool l, .bool o, .bool f] := by rw [← hX]; exact has_new _ _ _
  have hzw1 : w1.heap.size = w.heap.size + 1 := by rw [← hX]; simp
  clear hX
  have zb := hb; clear hb
  have za := hk; clear hk
  generalize hX : (w1.alloc (.cells #[.int .i64 0, .int .i64 0, .bool false, .bool false, .bool false] 27)) = w2
  have hb : Below w1.heap.size w1 w2 := by rw [← hX]; exact balloc _ _
  have hk : Has w2 w1.heap.size 27 #[.int .i64 0, .int .i64 0, .bool false, .bool false, .bool false] := by rw [← hX]; exact has_new _ _ _
  have hzw2 : w2.heap.size = w.heap.size + 2 := by rw [← hX]; simp [hzw1]
  clear hX
  rw [hzw1] at hk
  replace za := has_call za hb
  replace zb := bthen zb hb; clear hb
  have zr := hk; clear hk
  clear hzw1
  generalize hX : (w2.alloc (.cells #[] 3)) = w3
  have hb : Below w2.heap.size w2 w3 := by rw [← hX]; exact balloc _ _
  have OW := Lib.hid (show w3.ownsRow (w.heap.size + 2) 3 1 (.slice (some ⟨w.heap.size + 1 + 1, 0, none⟩) 0 0) 0 [] from by rw [← hX]; exact owns_at _ _ _ _ _ (by omega) (by omega))
  clear hzw2
  clear hX
  replace za := has_call za hb
  replace zr := has_call zr hb
  replace zb := bthen zb hb; clear hb
  refine (doorI_any _ k s l o f).mono ?_
  rintro e w4 ⟨rfl, hb⟩
  rw [HK.out]
  have ow9 := own_keep OW.out (g := w.heap.size) (only_of_below hb) (by omega); clear OW; have OW := Lib.hid ow9; clear ow9
  replace za := has_call za hb
  replace zr := has_call zr hb
  replace zb := bthen zb hb; clear hb
  have zac0 := has_cell za 0 rfl; have zac1 := has_cell za 1 rfl; have zac2 := has_cell za 2 rfl; have zac3 := has_cell za 3 rfl; have zac4 := has_cell za 4 rfl
  have zaf0 := has_free za 0; have zaf1 := has_free za 1; have zaf2 := has_free za 2; have zaf3 := has_free za 3; have zaf4 := has_free za 4
  have zalt := has_lt za
  have zrc0 := has_cell zr 0 rfl; have zrc1 := has_cell zr 1 rfl; have zrc2 := has_cell zr 2 rfl; have zrc3 := has_cell zr 3 rfl; have zrc4 := has_cell zr 4 rfl
  have zrf0 := has_free zr 0; have zrf1 := has_free zr 1; have zrf2 := has_free zr 2; have zrf3 := has_free zr 3; have zrf4 := has_free zr 4
  have zrlt := has_lt zr
  have ZAH := Lib.hid za; clear za
  have ZRH := Lib.hid zr; clear zr
  have ZB := Lib.hid zb; clear zb
  go_wp2_with fail
  clear zac0 zac1 zac2 zac3 zac4 zaf0 zaf1 zaf2 zaf3 zaf4 zalt zrc0 zrc1 zrc2 zrc3 zrc4 zrf0 zrf1 zrf2 zrf3 zrf4 zrlt
  have za := ZAH.out; clear ZAH
  have zr := ZRH.out; clear ZRH
  have zb := ZB.out; clear ZB
  refine (actsI_any _ B A c L hl ((HS.out.below (zb.mono hB)))).mono ?_
  rintro e w5 ⟨rfl, hw⟩
  rw [hw]; clear hw w5
  rw [HA.out]
  have zac0 := has_cell za 0 rfl; have zac1 := has_cell za 1 rfl; have zac2 := has_cell za 2 rfl; have zac3 := has_cell za 3 rfl; have zac4 := has_cell za 4 rfl
  have zaf0 := has_free za 0; have zaf1 := has_free za 1; have zaf2 := has_free za 2; have zaf3 := has_free za 3; have zaf4 := has_free za 4
  have zalt := has_lt za
  have zrc0 := has_cell zr 0 rfl; have zrc1 := has_cell zr 1 rfl; have zrc2 := has_cell zr 2 rfl; have zrc3 := has_cell zr 3 rfl; have zrc4 := has_cell zr 4 rfl
  have zrf0 := has_free zr 0; have zrf1 := has_free zr 1; have zrf2 := has_free zr 2; have zrf3 := has_free zr 3; have zrf4 := has_free zr 4
  have zrlt := has_lt zr
  have ZAH := Lib.hid za; clear za
  have ZRH := Lib.hid zr; clear zr
  have ZB := Lib.hid zb; clear zb
  go_wp2_with fail
  clear zac0 zac1 zac2 zac3 zac4 zaf0 zaf1 zaf2 zaf3 zaf4 zalt zrc0 zrc1 zrc2 zrc3 zrc4 zrf0 zrf1 zrf2 zrf3 zrf4 zrlt
  have za := ZAH.out; clear ZAH
  have zr := ZRH.out; clear ZRH
  have zb := ZB.out; clear ZB
  have ST : Hid (Has w4 w.heap.size 27 #[.int .i64 k, .int .i64 s, .bool l, .bool o, .bool f] ∧ Has w4 (w.heap.size + 1) 27 #[.int .i64 0, .int .i64 0, .bool false, .bool false, .bool false] ∧ Below w.heap.size w w4) := Lib.hid ⟨za, zr, zb⟩
  clear za zr zb
  go_loopw [6, 23] (fun cv iv wr => ∃ (i : Nat) (A' : Option Addr) (c' : Nat), i ≤ L.length ∧ iv = .int .i64 i ∧ cv = .slice A' (oAt ⟨k, s, l, o, f⟩ L i).length c' ∧ wr.ownsRow (w.heap.size + 2) 3 1 (.slice A' (oAt ⟨k, s, l, o, f⟩ L i).length c') (oAt ⟨k, s, l, o, f⟩ L i).length (intV (oAt ⟨k, s, l, o, f⟩ L i)) ∧ Has wr w.heap.size 27 (dAt ⟨k, s, l, o, f⟩ L i).A ∧ Has wr (w.heap.size + 1) 27 #[.int .i64 0, .int .i64 0, .bool false, .bool false, .bool false] ∧ Below w.heap.size w wr) (fun _ iv _ => L.length - (intOf iv).toNat)
  case atStart => exact ⟨0, _, _, Nat.zero_le _, rfl, rfl, OW.out, ST.out.1, ST.out.2.1, ST.out.2.2⟩
  case round =>
    obtain ⟨i, A9, c9, hi, rfl, rfl, own, hza, zr, zb⟩ := hrel
    clear OW ST
    have hol := oAt_len ⟨k, s, l, o, f⟩ L i
    obtain ⟨k1, s1, l1, o1, f1, hd⟩ : ∃ k1 s1 l1 o1 f1, dAt ⟨k, s, l, o, f⟩ L i = ⟨k1, s1, l1, o1, f1⟩ := ⟨_, _, _, _, _, rfl⟩
    rw [hd] at hza
    have za : Has wr w.heap.size 27 #[.int .i64 k1, .int .i64 s1, .bool l1, .bool o1, .bool f1] := hza
    clear hza
    have HD := Lib.hid hd; clear hd
    have hzw := has_lt zr
    have OW := Lib.hid own; clear own
    by_cases hlt : i < L.length
    · obtain ⟨b, off, x, rfl, hbB, hx, hc0⟩ := (HS.out.below (zb.mono hB)).at_ hlt
      have hr := HAT.out i x hx
      have HDS := Lib.hid (show dAt ⟨k, s, l, o, f⟩ L (i + 1) = actD ⟨k1, s1, l1, o1, f1⟩ x by rw [dAt_succ hx, HD.out])
      clear hx
      obtain ⟨k2, s2, l2, o2, f2, hd2⟩ : ∃ k2 s2 l2 o2 f2, actD ⟨k1, s1, l1, o1, f1⟩ x = ⟨k2, s2, l2, o2, f2⟩ := ⟨_, _, _, _, _, rfl⟩
      have HV2 := Lib.hid (show Value.agg (actD ⟨k1, s1, l1, o1, f1⟩ x).A = .agg #[.int .i64 k2, .int .i64 s2, .bool l2, .bool o2, .bool f2] by rw [hd2]; rfl)
      have HD2 := Lib.hid hd2; clear hd2
      have HR := Lib.hid hr; clear hr
      have hsw := zb.size
      have zac0 := has_cell za 0 rfl; have zac1 := has_cell za 1 rfl; have zac2 := has_cell za 2 rfl; have zac3 := has_cell za 3 rfl; have zac4 := has_cell za 4 rfl
      have zaf0 := has_free za 0; have zaf1 := has_free za 1; have zaf2 := has_free za 2; have zaf3 := has_free za 3; have zaf4 := has_free za 4
      have zalt := has_lt za
      have ZAH := Lib.hid za; clear za
      have ZRH := Lib.hid zr; clear zr
      have ZB := Lib.hid zb; clear zb
      go_wp2_with fail
      clear zac0 zac1 zac2 zac3 zac4 zaf0 zaf1 zaf2 zaf3 zaf4 zalt
      have za := ZAH.out; clear ZAH
      have zr := ZRH.out; clear ZRH
      have zb := ZB.out; clear ZB
      generalize hX : (wr.alloc (.cells #[.int .i64 k1, .int .i64 s1, .bool l1, .bool o1, .bool f1] 27)) = w6
      have hb : Below wr.heap.size wr w6 := by rw [← hX]; exact balloc _ _
      have hk : Has w6 wr.heap.size 27 #[.int .i64 k1, .int .i64 s1, .bool l1, .bool o1, .bool f1] := by rw [← hX]; exact has_new _ _ _
      clear hX
      have ow9 := own_keep OW.out (g := w.heap.size) (only_of_below hb) (by omega); clear OW; have OW := Lib.hid ow9; clear ow9
      replace za := has_call za hb
      replace zr := has_call zr hb
      replace zb := bthen zb hb; clear hb
      have zp := hk; clear hk
      refine (actI_any _ k1 s1 l1 o1 f1 x HR.out).mono ?_
      rintro e w7 ⟨rfl, hb⟩
      rw [HV2.out]
      have ow9 := own_keep OW.out (g := w.heap.size) (only_of_below hb) (by omega); clear OW; have OW := Lib.hid ow9; clear ow9
      replace za := has_call za hb
      replace zr := has_call zr hb
      replace zp := has_call zp hb
      replace zb := bthen zb hb; clear hb
      have zac0 := has_cell za 0 rfl; have zac1 := has_cell za 1 rfl; have zac2 := has_cell za 2 rfl; have zac3 := has_cell za 3 rfl; have zac4 := has_cell za 4 rfl
      have zaf0 := has_free za 0; have zaf1 := has_free za 1; have zaf2 := has_free za 2; have zaf3 := has_free za 3; have zaf4 := has_free za 4
      have zalt := has_lt za
      have zpc0 := has_cell zp 0 rfl; have zpc1 := has_cell zp 1 rfl; have zpc2 := has_cell zp 2 rfl; have zpc3 := has_cell zp 3 rfl; have zpc4 := has_cell zp 4 rfl
      have zplt := has_lt zp
      have ZAH := Lib.hid za; clear za
      have ZRH := Lib.hid zr; clear zr
      have ZPH := Lib.hid zp; clear zp
      have ZB := Lib.hid zb; clear zb
      go_upto_region 9 with fail
      clear zac0 zac1 zac2 zac3 zac4 zaf0 zaf1 zaf2 zaf3 zaf4 zalt zpc0 zpc1 zpc2 zpc3 zpc4 zplt
      have za := ZAH.out; clear ZAH
      have zr := ZRH.out; clear ZRH
      have zp := ZPH.out; clear ZPH
      have zb := ZB.out; clear ZB
      generalize hX : World.setCell _ _ _ = w8
      have za2 : Has w8 w.heap.size 27 #[.int .i64 k2, .int .i64 s2, .bool l2, .bool o2, .bool f2] := by rw [← hX]; exact hset5 za _ _ _ _ _
      have ho8 : Only w7 w.heap.size w8 := by rw [← hX]; exact oset5 (only_refl _ _) _ _ _ _ _
      have zb8 : Below w.heap.size w w8 := by rw [← hX]; exact bset5 (Nat.le_refl _) _ _ _ _ _ zb
      clear hX
      have hzl := has_lt zr
      replace zr := has_only_d zr ho8 (by omega); replace zp := has_only_d zp ho8 (by omega)
      have ow9 := own_keep OW.out ho8 (by omega); clear OW; have OW := Lib.hid ow9; clear ow9 za zb ho8
      have za := za2; have zb := zb8; clear za2 zb8
      have hzl := has_lt zr
      by_cases heq : (⟨k2, s2, l2, o2, f2⟩ : Dr) = ⟨k1, s1, l1, o1, f1⟩
      · injection heq with e1 e2 e3 e4 e5
        subst e1 e2 e3 e4 e5
        have HO := Lib.hid (oAt_same (d := ⟨k, s, l, o, f⟩) (l := L) (k := i) (by rw [HDS.out, HD2.out, HD.out]))
        have HN := Lib.hid (HDS.out.trans HD2.out)
        clear HD HDS HD2 HV2
        have zac0 := has_cell za 0 rfl; have zac1 := has_cell za 1 rfl; have zac2 := has_cell za 2 rfl; have zac3 := has_cell za 3 rfl; have zac4 := has_cell za 4 rfl
        have zalt := has_lt za
        have zpc0 := has_cell zp 0 rfl; have zpc1 := has_cell zp 1 rfl; have zpc2 := has_cell zp 2 rfl; have zpc3 := has_cell zp 3 rfl; have zpc4 := has_cell zp 4 rfl
        have zplt := has_lt zp
        have ZAH := Lib.hid za; clear za
        have ZRH := Lib.hid zr; clear zr
        have ZPH := Lib.hid zp; clear zp
        have ZB := Lib.hid zb; clear zb
        go_wp2_with fail
        clear zac0 zac1 zac2 zac3 zac4 zalt zpc0 zpc1 zpc2 zpc3 zpc4 zplt
        have za := ZAH.out; clear ZAH
        have zr := ZRH.out; clear ZRH
        have zp := ZPH.out; clear ZPH
        have zb := ZB.out; clear ZB
        go_roundw
        case rel => exact ⟨i + 1, A9, c9, by omega, by go_num, by rw [HO.out], by rw [HO.out]; exact OW.out, by rw [HN.out]; exact za, zr, zb⟩
        case measure => simp [intOf]; omega
      have HO := Lib.hid (oAt_more (d := ⟨k, s, l, o, f⟩) (l := L) (k := i) (by rw [HDS.out, HD2.out, HD.out]; exact heq))
      have HN := Lib.hid (HDS.out.trans HD2.out)
      have hcmp : ∀ W : World, (binOp .neq 27 (.agg #[.int .i64 k2, .int .i64 s2, .bool l2, .bool o2, .bool f2]) (.agg #[.int .i64 k1, .int .i64 s1, .bool l1, .bool o1, .bool f1])).run Try.prog W = .ok (.bool true) W := fun W => door_ne W heq
      clear HD HDS HD2 HV2 heq
      obtain ⟨i0, hi0, hz0, hz1, hz2⟩ := info_parts intInfo
      have zac0 := has_cell za 0 rfl; have zac1 := has_cell za 1 rfl; have zac2 := has_cell za 2 rfl; have zac3 := has_cell za 3 rfl; have zac4 := has_cell za 4 rfl
      have zalt := has_lt za
      have zpc0 := has_cell zp 0 rfl; have zpc1 := has_cell zp 1 rfl; have zpc2 := has_cell zp 2 rfl; have zpc3 := has_cell zp 3 rfl; have zpc4 := has_cell zp 4 rfl
      have zplt := has_lt zp
      have ZAH := Lib.hid za; clear za
      have ZRH := Lib.hid zr; clear zr
      have ZPH := Lib.hid zp; clear zp
      have ZB := Lib.hid zb; clear zb
      go_wp2_with (at_builtin; go_must (refine list_app rfl _ _ 24 rfl (w.heap.size + 2) 3 i0 (.int .i64 0) 1 8 Try.underlying24 hi0 hz0 hz1 hz2 rfl (by decide) _ (oAt ⟨k, s, l, o, f⟩ L i).length _ rfl (OW.out.alloc _) (some ⟨w8.heap.size, 0, none⟩) 1 1 [.int .i64 (i : Int)] rfl (src_int (has_new _ _ _)) (by unfold maxLen; omega) (by omega) (by simp; omega) ?_))
      intro A3 c3 w9 hown3 hgrow3 hrow3
      clear zac0 zac1 zac2 zac3 zac4 zalt zpc0 zpc1 zpc2 zpc3 zpc4 zplt
      have za := ZAH.out; clear ZAH
      have zr := ZRH.out; clear ZRH
      have zp := ZPH.out; clear ZPH
      have zb := ZB.out; clear ZB
      have za3 : Has w9 w.heap.size 27 #[.int .i64 k2, .int .i64 s2, .bool l2, .bool o2, .bool f2] := has_grown (has_alloc za _) hgrow3 (fun e => by have := (hrow3 _ e.symm).1; omega)
      have zr3 : Has w9 (w.heap.size + 1) 27 #[.int .i64 0, .int .i64 0, .bool false, .bool false, .bool false] := has_grown (has_alloc zr _) hgrow3 (fun e => by have := (hrow3 _ e.symm).1; omega)
      have zb3 : Below w.heap.size w w9 := (zb.alloc (by omega) _).grown hgrow3 (by simp; omega) (fun b hb => by have := (hrow3 b hb).1; omega)
      have own4 : w9.ownsRow (w.heap.size + 2) 3 1 (.slice A3 (oAt ⟨k, s, l, o, f⟩ L (i + 1)).length c3) (oAt ⟨k, s, l, o, f⟩ L (i + 1)).length (intV (oAt ⟨k, s, l, o, f⟩ L (i + 1))) := by rw [HO.out]; simpa [intV] using hown3
      have hl5 : (oAt ⟨k, s, l, o, f⟩ L i).length + 1 = (oAt ⟨k, s, l, o, f⟩ L (i + 1)).length := by rw [HO.out]; simp
      rw [hl5]; have OW4 := Lib.hid own4; have ZA3 := Lib.hid za3; have ZR3 := Lib.hid zr3; have ZB3 := Lib.hid zb3
      clear hown3 hgrow3 hrow3 own4 za3 zr3 zb3 hl5 hcmp za zr zp zb hi0 hz0 hz1 hz2 hol
      go_wp2_with fail
      go_roundw
      case rel => exact ⟨i + 1, A3, c3, by omega, by go_num, rfl, OW4.out, by rw [HN.out]; exact ZA3.out, ZR3.out, ZB3.out⟩
      case measure => simp [intOf]; omega
    · have hil : i = L.length := by omega
      subst hil
      have HX := Lib.hid (show doActs ⟨k, s, l, o, f⟩ L = (⟨k1, s1, l1, o1, f1⟩, oAt ⟨k, s, l, o, f⟩ L L.length) by rw [HV.out, HD.out])
      clear HV HD hol
      have zac0 := has_cell za 0 rfl; have zac1 := has_cell za 1 rfl; have zac2 := has_cell za 2 rfl; have zac3 := has_cell za 3 rfl; have zac4 := has_cell za 4 rfl
      have zaf0 := has_free za 0; have zaf1 := has_free za 1; have zaf2 := has_free za 2; have zaf3 := has_free za 3; have zaf4 := has_free za 4
      have zalt := has_lt za
      have zrc0 := has_cell zr 0 rfl; have zrc1 := has_cell zr 1 rfl; have zrc2 := has_cell zr 2 rfl; have zrc3 := has_cell zr 3 rfl; have zrc4 := has_cell zr 4 rfl
      have zrf0 := has_free zr 0; have zrf1 := has_free zr 1; have zrf2 := has_free zr 2; have zrf3 := has_free zr 3; have zrf4 := has_free zr 4
      have zrlt := has_lt zr
      have ZAH := Lib.hid za; clear za
      have ZRH := Lib.hid zr; clear zr
      have ZB := Lib.hid zb; clear zb
      go_wp2_with fail
      refine bodyPost_ret (v := .tuple #[.agg #[.int .i64 k1, .int .i64 s1, .bool l1, .bool o1, .bool f1], .slice A9 (oAt ⟨k, s, l, o, f⟩ L L.length).length c9]) (by simp [results, Try.results15, go_sem, zac0, zac1, zac2, zac3, zac4, zaf0, zaf1, zaf2, zaf3, zaf4, zalt, zrc0, zrc1, zrc2, zrc3, zrc4, zrf0, zrf1, zrf2, zrf3, zrf4, zrlt]) rfl ⟨_, _, doa_ne HX.out rfl, ?_, ?_⟩
      · rw [HX.out]; exact OR.more (or_of_own (own_keep (g := w.heap.size + 1) OW.out (oset5 (only_refl _ _) _ _ _ _ _) (by omega))) (by omega)
      · repeat (first | (with_reducible exact ZB.out) | (with_reducible refine Below.alloc ?_ (by have h9 := ZB.out.size; simp <;> omega) _) | (with_reducible refine Below.drew ?_) | (with_reducible refine Below.setCell ?_ (by first | exact Nat.le_refl _ | exact Nat.le_add_right _ _ | (simp <;> omega)) _))
end Go.Proofs.Ytaeonangkbhmgaa
