/- Chapter 7: plain facts on driving; contracts of loadAtHub and drive of the program (gen_toud.py). -/
import Derived.Test.YtfimdhbcifjioaaTouC
import Derived.Deep.RegionHeld3
import Derived.Deep.DeepMust
import Derived.WalkLawsBesides
import Derived.Deep.DeepCutAuto
import Derived.RegionTactic
namespace Go.Proofs.Ytfimdhbcifjioaa
open Go.RowKit
set_option linter.unusedVariables false

theorem src_one {w : World} {g : Nat} {x : Int} {t : TypeId} (h : Has w g t #[.int .i64 x]) : Src w (some ⟨g, 0, none⟩) 1 1 [.int .i64 x] := by
  refine ⟨rfl, by simp [Value.oneCell'], (fun e => by cases e), fun ad e j u hu => ?_⟩
  injection e with e; subst e
  match j with
  | 0 => simp at hu; subst hu; exact has_cell h 0 rfl
  | j + 1 => simp at hu
theorem only_bel {w w' : World} {g : Nat} (h : Below w.heap.size w w') : Only w g w' := ⟨h.os, h.tape, h.output, h.size, fun k hk _ => h.block k hk⟩
theorem below_dn {B : Nat} {a w : World} (h : Below B a w) (n : Nat) : Below B a (w.drewN n) := below_drewN h n
theorem has_ne {w : World} {g g' : Nat} {t t' : TypeId} {cs cs' : Array Value} (h : Has w g t cs) (h' : Has w g' t' cs') (hne : t ≠ t') : g ≠ g' := fun e => by
  subst e
  have := h.symm.trans h'
  injection this with this; injection this with _ this _
  exact hne this
/-- a row of the call's own is kept where a block of another kind changes -/
theorem own_kt {w w' : World} {base g : Nat} {e T : TypeId} {size n : Nat} {v : Value} {xs : List Value} {cs : Array Value} (h : w.ownsRow base e size v n xs) (hg : Has w g T cs) (hne : e ≠ T) (ho : Only w g w') : w'.ownsRow base e size v n xs := by
  refine h.kept ho ?_
  cases hb : v.ownBlock with
  | none => exact .inl rfl
  | some b =>
    refine .inr (fun e2 => ?_)
    injection e2 with e2
    obtain ⟨_, cur, hc⟩ := own_has h b hb
    exact has_ne hc hg hne e2
theorem own_call {w w' : World} {base : Nat} {e : TypeId} {size n : Nat} {v : Value} {xs : List Value} (h : w.ownsRow base e size v n xs) (hb : Below w.heap.size w w') : w'.ownsRow base e size v n xs := by
  refine h.kept (row := none) ⟨hb.os, hb.tape, hb.output, hb.size, fun k hk _ => hb.block k hk⟩ ?_
  cases v.ownBlock with
  | none => exact .inl rfl
  | some b => exact .inr (fun e => by cases e)
theorem has_gt {w w' : World} {g : Nat} {T e : TypeId} {cs : Array Value} {row : Option Nat} (h : Has w g T cs) (hg : w.grownBy w' row) (hrow : ∀ b, row = some b → ∃ cur, Has w b e cur) (hne : e ≠ T) : Has w' g T cs :=
  has_grown h hg (fun e2 => by obtain ⟨cur, hc⟩ := hrow g e2.symm; exact has_ne hc h hne rfl)
theorem has_onl {w w' : World} {g h : Nat} {t : TypeId} {cs : Array Value} (k : Has w h t cs) (ho : Only w g w') (hne : h ≠ g) : Has w' h t cs := (ho.block h (has_lt k) (fun e => hne (by injection e))).trans k
theorem or_own' {w : World} {base : Nat} {e : TypeId} {A : Option Addr} {xs : List Value} {size n c : Nat} (h : w.ownsRow base e size (.slice A n c) n xs) : OR w base e A xs := by
  obtain ⟨A', c', e', h'⟩ := or_own h
  injection e' with e1 e2 e3; subst e1; exact h'
theorem only_set5 (W : World) (r : Nat) (a b c d e : Value) : Only W r (((((W.setCell ⟨r, 0, none⟩ a).setCell ⟨r, 1, none⟩ b).setCell ⟨r, 2, none⟩ c).setCell ⟨r, 3, none⟩ d).setCell ⟨r, 4, none⟩ e) :=
  only_set (only_set (only_set (only_set (only_set (only_refl _ _) 0 a) 1 b) 2 c) 3 d) 4 e
theorem below_set5 {w W : World} {B r : Nat} (hr : B ≤ r) (a b c d e : Value) (hb : Below B w W) : Below B w (((((W.setCell ⟨r, 0, none⟩ a).setCell ⟨r, 1, none⟩ b).setCell ⟨r, 2, none⟩ c).setCell ⟨r, 3, none⟩ d).setCell ⟨r, 4, none⟩ e) :=
  ((((hb.setCell hr _).setCell hr _).setCell hr _).setCell hr _).setCell hr _
theorem or_dr {w : World} {base : Nat} {e : TypeId} {A : Option Addr} {xs : List Value} (h : OR w base e A xs) : OR w.drew base e A xs := h
/-- the leg from one place to another, as it is read -/
theorem leg_row {b r : Int} {R : List Rw} {S : List Sp} (h : RoundT b r (gOf R) S) {p : Nat} (hp : p ≤ S.length) : ∃ x, R[p]? = some x ∧ x.l.length = S.length + 1 ∧ ∀ q : Nat, q ≤ S.length → x.l[q]? = some (legT (gOf R) p q) := by
  have hl : p < R.length := by have := h.len; rw [gOf_len] at this; omega
  have hx := List.getElem?_eq_getElem hl
  have hg := gOf_at hx
  have hlen := h.row _ (List.mem_of_getElem? hg)
  refine ⟨_, hx, hlen, fun q hq => ?_⟩
  have hq2 : q < (R[p]).l.length := by omega
  rw [List.getElem?_eq_getElem hq2, legT]
  simp only [Int.toNat_natCast, List.getD_eq_getElem?_getD, hg, Option.getD_some, List.getElem?_eq_getElem hq2]
theorem stop_row {S : List Sp} {i : Nat} (h : i < S.length) : S[i]? = some (stopT S i) := by
  have := (stop_mem (S := S) (i := (i : Int)) (by omega) (by omega)).2
  simpa using this
theorem runT_snoc {G : List (List Int)} {S : List Sp} {x : Int} : ∀ {l : List Int} {d : Dv}, runT G S (l ++ [x]) d = match runT G S l d with | none => none | some d' => stepT G S d' x
  | [], d => by simp only [List.nil_append, runT]; cases stepT G S d x <;> rfl
  | i :: q, d => by
    simp only [List.cons_append, runT]
    cases stepT G S d i with
    | none => rfl
    | some d' => exact runT_snoc
theorem runT_no {G : List (List Int)} {S : List Sp} : ∀ {l q : List Int} {d : Dv}, runT G S l d = none → runT G S (l ++ q) d = none
  | [], q, d, h => by simp [runT] at h
  | i :: l, q, d, h => by
    simp only [List.cons_append, runT] at h ⊢
    cases hs : stepT G S d i with
    | none => rfl
    | some d' => rw [hs] at h; exact runT_no h
theorem runT_take {G : List (List Int)} {S : List Sp} {O : List Int} {k : Nat} {x : Int} {d d' : Dv} (hx : O[k]? = some x) (h : runT G S (O.take k) d = some d') : runT G S (O.take (k + 1)) d = stepT G S d' x := by
  rw [take_snoc hx, runT_snoc, h]
theorem runT_stop {G : List (List Int)} {S : List Sp} {O : List Int} {k : Nat} {d : Dv} (h : runT G S (O.take k) d = none) : runT G S O d = none := by
  have := runT_no (q := O.drop k) h
  rwa [List.take_append_drop] at this
theorem stepT_put {G : List (List Int)} {S : List Sp} {d : Dv} {i a bg en ld pk wt pl : Int} {bs : List Int} (ha : a = d.fin + legT G d.place (i + 1)) (hle : a ≤ (stopT S i).stop) (hbs : bs = d.begins ++ [bg]) (hbg : bg = max a (stopT S i).start) (hen : en = bg + (stopT S i).work)
    (hld : ld = d.load + ((stopT S i).fetch - (stopT S i).bring)) (hpk : pk = max d.peak ld) (hwt : wt = d.wait + (bg - a)) (hpl : pl = i + 1) : stepT G S d i = some ⟨bs, en, ld, pk, wt, pl⟩ := by
  subst hpl hwt hpk hld hen hbs hbg ha
  rw [stepT, if_neg (by omega)]
theorem stepT_not {G : List (List Int)} {S : List Sp} {d : Dv} {i a : Int} (ha : a = d.fin + legT G d.place (i + 1)) (hle : (stopT S i).stop < a) : stepT G S d i = none := by
  subst ha; rw [stepT, if_pos hle]
theorem driveT_no {b r : Int} {G : List (List Int)} {S : List Sp} {O : List Int} (h : runT G S O ⟨[], b, loadT S O, loadT S O, 0, 0⟩ = none) : driveT b r G S O = none := by rw [driveT, h]
theorem driveT_big {b r : Int} {G : List (List Int)} {S : List Sp} {O : List Int} {d : Dv} (h : runT G S O ⟨[], b, loadT S O, loadT S O, 0, 0⟩ = some d) (hr : r < d.peak) : driveT b r G S O = none := by rw [driveT, h]; exact if_pos hr
theorem driveT_yes {b r : Int} {G : List (List Int)} {S : List Sp} {O : List Int} {d : Dv} (h : runT G S O ⟨[], b, loadT S O, loadT S O, 0, 0⟩ = some d) (hr : d.peak ≤ r) : driveT b r G S O = some { d with fin := homeT G O d } := by rw [driveT, h]; exact if_neg (by omega)
theorem loadT_take {S : List Sp} {O : List Int} {k : Nat} {x : Int} (hx : O[k]? = some x) : loadT S (O.take (k + 1)) = loadT S (O.take k) + (stopT S x).bring := by
  rw [take_snoc hx]; simp [loadT]
theorem take_in {n : Nat} {O : List Int} (h : ∀ x ∈ O, 0 ≤ x ∧ x < n) (k : Nat) : ∀ x ∈ O.take k, 0 ≤ x ∧ x < n := fun x hx => h x (List.mem_of_mem_take hx)
/-- a valid order, with what a walk wants of it -/
structure OrdT (S : List Sp) (O : List Int) : Prop where
  len : O.length ≤ S.length
  six : S.length ≤ 6
  at_ : ∀ x ∈ O, 0 ≤ x ∧ x < S.length
theorem ordT_of {b r : Int} {G : List (List Int)} {S : List Sp} {O : List Int} (h : orderB b r G S O = true) : RoundT b r G S ∧ OrdT S O := by
  obtain ⟨h1, h2, h3⟩ := (orderB_iff _ _ _ _ _).1 h
  exact ⟨h1, order_len h2 h3, h1.six, h3⟩
theorem dv0 {b r : Int} {G : List (List Int)} {S : List Sp} {O : List Int} (h : RoundT b r G S) (ho : OrdT S O) : DvOk S 0 ⟨[], b, loadT S O, loadT S O, 0, 0⟩ := by
  have h1 := loadT_ok h.stops ho.at_
  have := ho.len; have := ho.six; have := h.b0; have := h.b1
  exact ⟨rfl, by dsimp only; omega, by dsimp only; omega, by dsimp only; omega, by dsimp only; omega, by dsimp only; omega, by dsimp only; omega, by dsimp only; omega, by dsimp only; omega, by dsimp only; omega, by dsimp only; omega⟩

set_option maxRecDepth 100000 in
set_option maxHeartbeats 4000000 in
theorem loadI_any (w : World) (B : Nat) (b r : Int) (AL AS : Option Addr) (cL cS : Nat) (R : List Rw) (S : List Sp) (AO : Option Addr) (cO : Nat) (O : List Int) (hB : B ≤ w.heap.size) (hR : RdIn w B AL R AS S) (lO : O.length ≤ maxLen) (hO : IL w B AO O) (hT : RoundT b r (gOf R) S) (hQ : OrdT S O) :
    Calls Try.prog 42 #[.agg #[.int .i64 b, .int .i64 r, .slice AL R.length cL, .slice AS S.length cS], .slice AO O.length cO] w fun e w' => e = .returned (.int .i64 (loadT S O)) ∧ Below w.heap.size w w' := by
  have HR := Lib.hid hR; have HO := Lib.hid hO; have HT := Lib.hid hT; have HQ := Lib.hid hQ; clear hR hO hT hQ
  have hol := HQ.out.len; have h6 := HQ.out.six
  have hlo := lO; unfold maxLen at hlo
  go_enter Try.func42, Try.ntmps42
  go_wp2_with fail
  go_loopw [5, 10] (fun lv i wr => ∃ k : Nat, k ≤ O.length ∧ i = .int .i64 k ∧ lv = .int .i64 (loadT S (O.take k)) ∧ Has wr w.heap.size 27 #[.int .i64 b, .int .i64 r, .slice AL R.length cL, .slice AS S.length cS] ∧ Below w.heap.size w wr) (fun _ i _ => O.length - (intOf i).toNat)
  case atStart => exact ⟨0, Nat.zero_le _, rfl, rfl, has_new _ _ _, balloc _ _⟩
  case round =>
    obtain ⟨k, hk, rfl, rfl, hH, hb⟩ := hrel
    have hsz := hb.size
    by_cases hlt : k < O.length
    · obtain ⟨bo, fo, x, hAO, hbO, hx, ho0⟩ := (HO.out.later hB hb).at_ hlt
      have hxr := HQ.out.at_ x (List.mem_of_getElem? hx)
      obtain ⟨i, rfl⟩ : ∃ i : Nat, x = (i : Int) := ⟨x.toNat, by omega⟩
      obtain ⟨bs, fs, s, hAS, hbS, hs, hs0, hs1, hs2, hs3, hs4⟩ := (HR.out.stops.later hB hb).at_ (k := i) (by omega)
      obtain rfl : stopT S i = s := by have := stop_row (S := S) (i := i) (by omega); rw [hs] at this; injection this with this; exact this.symm
      have hst := (stopB_iff _).1 (HT.out.stops _ (List.mem_of_getElem? hs))
      have hla := loadT_ok HT.out.stops (take_in HQ.out.at_ k)
      rw [List.length_take] at hla
      have hsum := loadT_take (S := S) hx
      obtain ⟨v, hv⟩ : ∃ v, (stopT S i).bring = v := ⟨_, rfl⟩
      obtain ⟨u, hu⟩ : ∃ u, loadT S (O.take k) = u := ⟨_, rfl⟩
      rw [hv] at hs3 hsum hst; rw [hu] at hsum hla ⊢
      have HSUM := Lib.hid hsum
      obtain ⟨v0, v1⟩ : 0 ≤ v ∧ v ≤ 1000 := by omega
      obtain ⟨u0, u1⟩ : 0 ≤ u ∧ u ≤ 6000 := by omega
      subst hAO hAS
      clear hs0 hs1 hs2 hs4 hs hst hx hla hsum hv hu
      have hc3 := has_cell hH 3 rfl
      have HH := Lib.hid hH; clear hH
      go_wp2_with fail
      go_roundw
      case rel => exact ⟨k + 1, by omega, by go_num, by rw [HSUM.out], HH.out, hb⟩
      case measure => simp [intOf]; omega
    · go_wp2_with fail
      go_ret
      have hkl : k = O.length := by omega
      subst hkl
      exact ⟨ret_int (by rw [List.take_length]), hb⟩

/-- what drive answers -/
def DriveI (b r : Int) (G : List (List Int)) (S : List Sp) (O : List Int) (AO : Option Addr) (cO : Nat) (w : World) (e : Ending) (w' : World) : Prop :=
  (driveT b r G S O = none ∧ e = .returned (.tuple #[.agg #[.slice none 0 0, .slice none 0 0, .int .i64 0, .int .i64 0, .int .i64 0], .bool false]) ∨ ∃ (d : Dv) (A' : Option Addr) (c' : Nat), driveT b r G S O = some d ∧ d.begins.length = O.length ∧ OR w' w.heap.size 3 A' (intV d.begins) ∧
    e = .returned (.tuple #[.agg #[.slice AO O.length cO, .slice A' O.length c', .int .i64 d.fin, .int .i64 d.peak, .int .i64 d.wait], .bool true])) ∧ Below w.heap.size w w'
set_option maxRecDepth 100000 in
set_option maxHeartbeats 8000000 in
theorem driveI_any (w : World) (B : Nat) (b r : Int) (AL AS : Option Addr) (cL cS : Nat) (R : List Rw) (S : List Sp) (AO : Option Addr) (cO : Nat) (O : List Int) (hB : B ≤ w.heap.size) (hR : RdIn w B AL R AS S) (lO : O.length ≤ maxLen) (hO : IL w B AO O) (hT : RoundT b r (gOf R) S) (hQ : OrdT S O) :
    Calls Try.prog 32 #[.agg #[.int .i64 b, .int .i64 r, .slice AL R.length cL, .slice AS S.length cS], .slice AO O.length cO] w (DriveI b r (gOf R) S O AO cO w) := by
  have HR := Lib.hid hR; have HO := Lib.hid hO; have HT := Lib.hid hT; have HQ := Lib.hid hQ; clear hR hO hT hQ
  have hol := HQ.out.len; have h6 := HQ.out.six
  have hlo := lO; unfold maxLen at hlo
  have hla0 := loadT_ok HT.out.stops HQ.out.at_
  have HLC := Lib.hid (fun (W : World) (hb : Below w.heap.size w W) => loadI_any W B b r AL AS cL cS R S AO cO O (by have := hb.size; omega) (HR.out.later hB hb) lO (HO.out.later hB hb) HT.out HQ.out)
  obtain ⟨ld0, hld0⟩ : ∃ x, loadT S O = x := ⟨_, rfl⟩
  rw [hld0] at hla0
  have HL0 := Lib.hid hld0; clear hld0
  have HD0 := Lib.hid (dv0 HT.out HQ.out)
  go_enter Try.func32, Try.ntmps32
  go_wp2_with fail
  generalize hX : (w.alloc (.cells #[.int .i64 b, .int .i64 r, .slice AL R.length cL, .slice AS S.length cS] 27)) = w1
  have hb : Below w.heap.size w w1 := by rw [← hX]; exact balloc _ _
  have hk : Has w1 w.heap.size 27 #[.int .i64 b, .int .i64 r, .slice AL R.length cL, .slice AS S.length cS] := by rw [← hX]; exact has_new _ _ _
  have hz1 : w1.heap.size = w.heap.size + 1 := by rw [← hX]; simp
  clear hX
  generalize hX : (w1.alloc (.cells #[.slice none 0 0, .slice none 0 0, .int .i64 0, .int .i64 0, .int .i64 0] 40)) = w2
  have hb2 : Below w1.heap.size w1 w2 := by rw [← hX]; exact balloc _ _
  have hk2 : Has w2 w1.heap.size 40 #[.slice none 0 0, .slice none 0 0, .int .i64 0, .int .i64 0, .int .i64 0] := by rw [← hX]; exact has_new _ _ _
  have hz2 : w2.heap.size = w.heap.size + 2 := by rw [← hX]; simp [hz1]
  clear hX
  rw [hz1] at hk2
  replace hk := has_call hk hb2
  replace hb := bthen hb hb2; clear hb2 hz1
  refine (HLC.out _ hb).mono ?_
  rintro e w3 ⟨rfl, hb3⟩
  rw [HL0.out]
  replace hk := has_call hk hb3; replace hk2 := has_call hk2 hb3
  have hz3 : w.heap.size + 2 ≤ w3.heap.size := by have := hb3.size; omega
  replace hb := bthen hb hb3; clear hb3 hz2 w2 w1
  have hc0 := has_cell hk 0 rfl
  have hlt1 := has_lt hk
  have ZA := Lib.hid hk; have ZR := Lib.hid hk2; have ZB := Lib.hid hb; clear hk hk2 hb
  go_wp2_with fail
  have ht0 := has_new (w3.alloc (.cells #[] 3)) 40 #[.slice AO O.length cO, .slice (some ⟨w3.heap.size, 0, none⟩) 0 0, .int .i64 b, .int .i64 ld0, .int .i64 0]
  have HT0 := Lib.hid ht0; clear ht0 hc0
  have hsz3 : w.heap.size + 2 ≤ w3.heap.size := hz3
  go_loopw [6, 8, 25] (fun lv pv i wr => ∃ (k p : Nat) (bs : List Int) (en ld pk wt : Int) (A' : Option Addr) (c' : Nat), k ≤ O.length ∧ i = .int .i64 k ∧ lv = .int .i64 ld ∧ pv = .int .i64 (p : Int) ∧ runT (gOf R) S (O.take k) ⟨[], b, ld0, ld0, 0, 0⟩ = some ⟨bs, en, ld, pk, wt, (p : Int)⟩ ∧ DvOk S k ⟨bs, en, ld, pk, wt, (p : Int)⟩ ∧ wr.ownsRow w3.heap.size 3 1 (.slice A' k c') k (intV bs) ∧ Has wr (w3.heap.size + 1) 40 #[.slice AO O.length cO, .slice A' k c', .int .i64 en, .int .i64 pk, .int .i64 wt] ∧ Has wr w.heap.size 27 #[.int .i64 b, .int .i64 r, .slice AL R.length cL, .slice AS S.length cS] ∧ Has wr (w.heap.size + 1) 40 #[.slice none 0 0, .slice none 0 0, .int .i64 0, .int .i64 0, .int .i64 0] ∧ Below w.heap.size w wr) (fun _ _ i _ => O.length - (intOf i).toNat)
  case atStart => exact ⟨0, 0, [], b, ld0, ld0, 0, _, _, Nat.zero_le _, rfl, rfl, rfl, rfl, by have := HD0.out; rw [HL0.out] at this; exact this, (owns_new w3 w3.heap.size 3 1 (Nat.le_refl _)).alloc _, by simpa using HT0.out, has_alloc (has_alloc ZA.out _) _, has_alloc (has_alloc ZR.out _) _, (ZB.out.alloc (by omega) _).alloc (by simp; omega) _⟩
  case round =>
    obtain ⟨k, p, bs, en, ld, pk, wt, A', c', hk, rfl, rfl, rfl, hrun, hdv, hown, hZD, hZA, hZR, hb⟩ := hrel
    have hdv0 := hdv
    obtain ⟨g1, g2, g3, g4, g5, g6, g7, g8, g9, g10, g11⟩ := hdv
    dsimp only at g1 g2 g3 g4 g5 g6 g7 g8 g9 g10 g11
    have HDV := Lib.hid hdv0; have HRUN := Lib.hid hrun; have OWN := Lib.hid hown; have G1 := Lib.hid g1; clear hrun hown g1 hdv0
    have hsz := hb.size
    by_cases hlt : k < O.length
    · obtain ⟨bo, fo, x, hAO, hbO, hx, ho0⟩ := (HO.out.later hB hb).at_ hlt
      have hxr := HQ.out.at_ x (List.mem_of_getElem? hx)
      obtain ⟨i, rfl⟩ : ∃ i : Nat, x = (i : Int) := ⟨x.toNat, by omega⟩
      obtain ⟨bs2, fs, ⟨x0, x1, x2, x3, x4⟩, hAS, hbS, hs, hs0, hs1, hs2, hs3, hs4⟩ := (HR.out.stops.later hB hb).at_ (k := i) (by omega)
      have hsq : stopT S i = ⟨x0, x1, x2, x3, x4⟩ := by have := stop_row (S := S) (i := i) (by omega); rw [hs] at this; injection this with this; exact this.symm
      have hst := (stopB_iff _).1 (HT.out.stops _ (List.mem_of_getElem? hs))
      dsimp only at hs0 hs1 hs2 hs3 hs4 hst
      obtain ⟨⟨XA, xc, xl⟩, hxr2, hlen, hq⟩ := leg_row HT.out (p := p) (by omega)
      obtain ⟨bl, fl, x', hAL, hbL, hx', hl0⟩ := (HR.out.rows.later hB hb).at_ (k := p) (by have := (List.getElem?_eq_some_iff.1 hxr2).1; exact this)
      obtain rfl : x' = ⟨XA, xc, xl⟩ := by rw [hxr2] at hx'; injection hx' with hx'; exact hx'.symm
      dsimp only at hlen hq hl0
      obtain ⟨b3, f3, y, hA3, hb3, hy, hy0⟩ := ((HR.out.vals _ (List.mem_of_getElem? hxr2)).1.later hB hb).at_ (k := i + 1) (by dsimp only; omega)
      dsimp only at hA3 hy
      have hleg := leg_in HT.out (i := (p : Int)) (j := (i : Int) + 1) (by omega) (by omega) (by omega) (by omega)
      obtain rfl : legT (gOf R) p ((i : Int) + 1) = y := by have := hq (i + 1) (by omega); rw [hy] at this; injection this with this; exact this.symm
      obtain ⟨L, hL⟩ : ∃ L, legT (gOf R) p ((i : Int) + 1) = L := ⟨_, rfl⟩
      rw [hL] at hleg hy0
      have HL := Lib.hid hL; have HSQ := Lib.hid hsq; have HX := Lib.hid hx
      have hil : i < S.length := by omega
      have hlen9 : ((i : Int) + 1) < (xl.length : Int) := by omega
      have hpl : (p : Int) < (R.length : Int) := by have := (List.getElem?_eq_some_iff.1 hxr2).1; omega
      clear hL hsq hx hs hxr2 hx' hlen hq hy hxr
      have HPL := Lib.hid (fun (W : World) => plcT_any W (i : Int) (by omega) (by omega))
      have HZA := Lib.hid hZA; have HZR := Lib.hid hZR; have HZD := Lib.hid hZD; have HB := Lib.hid hb; clear hZA hZR hZD hb
      have hc2 := has_cell HZA.out 2 rfl; have hc3 := has_cell HZA.out 3 rfl
      subst hAO hAS hAL hA3
      have hbx : w.heap.size < wr.heap.size := has_lt HZA.out
      have hzd : w3.heap.size + 1 < wr.heap.size := has_lt HZD.out
      go_upto_region 8 with fail
      generalize hX : (wr.alloc (.cells #[.int .i64 x0, .int .i64 x1, .int .i64 x2, .int .i64 x3, .int .i64 x4] 50)) = w4
      have hb4 : Below wr.heap.size wr w4 := by rw [← hX]; exact balloc _ _
      have hk4 : Has w4 wr.heap.size 50 #[.int .i64 x0, .int .i64 x1, .int .i64 x2, .int .i64 x3, .int .i64 x4] := by rw [← hX]; exact has_new _ _ _
      clear hX
      have hsz4 := hb4.size
      have hl4 := (bold hb4 bl (fl + p) (by omega)).trans hl0
      have hy4 := (bold hb4 b3 (f3 + (i + 1)) (by omega)).trans hy0
      clear hs0 hs1 hs2 hs3 hs4 hl0 hy0 hc2 hc3
      replace HZA := Lib.hid (has_call HZA.out hb4); replace HZR := Lib.hid (has_call HZR.out hb4); replace HZD := Lib.hid (has_call HZD.out hb4); replace OWN := Lib.hid (own_call OWN.out hb4); replace HB := Lib.hid (HB.out.trans (hb4.mono hsz)); clear hb4
      have hc2 := has_cell HZA.out 2 rfl
      have hd2 := has_cell HZD.out 2 rfl
      have hbx4 : w.heap.size < w4.heap.size := has_lt HZA.out
      have hzd4 : w3.heap.size + 1 < w4.heap.size := has_lt HZD.out
      go_quiet (first | (go_at_call 43; exact Calls.quiet_of_same (HPL.out _)))
      clear hc2 hd2 hl4 hy4
      rename Nat => nq0
      have hx0 := has_cell hk4 0 rfl; have hx1 := has_cell hk4 1 rfl; have hx2 := has_cell hk4 2 rfl; have hx3 := has_cell hk4 3 rfl; have hx4 := has_cell hk4 4 rfl
      have hb5 := HB.out
      by_cases hlate : x1 < en + L
      · have HV := Lib.hid (show driveT b r (gOf R) S O = none from driveT_no (by
          rw [HL0.out]
          refine runT_stop (k := k + 1) ?_
          rw [runT_take HX.out HRUN.out]
          exact stepT_not (a := en + L) (by dsimp only; rw [HL.out]) (by rw [HSQ.out]; exact hlate)))
        have zr0 := has_cell HZR.out 0 rfl; have zr1 := has_cell HZR.out 1 rfl; have zr2 := has_cell HZR.out 2 rfl; have zr3 := has_cell HZR.out 3 rfl; have zr4 := has_cell HZR.out 4 rfl
        have zf0 := has_free HZR.out 0; have zf1 := has_free HZR.out 1; have zf2 := has_free HZR.out 2; have zf3 := has_free HZR.out 3; have zf4 := has_free HZR.out 4
        have hzl := has_lt HZR.out
        go_wp2_with fail
        refine bodyPost_ret (v := .tuple #[.agg #[.slice none 0 0, .slice none 0 0, .int .i64 0, .int .i64 0, .int .i64 0], .bool false]) (by simp [results, Try.results32, go_sem, zr0, zr1, zr2, zr3, zr4, zf0, zf1, zf2, zf3, zf4, hzl]) rfl ⟨.inl ⟨HV.out, rfl⟩, ?_⟩
        · exact ((((below_dn hb5 nq0).setCell (by simp) _).setCell (by simp) _).setCell (by simp) _ |>.setCell (by simp) _).setCell (by simp) _
      · go_upto_region 12 with fail
        obtain ⟨bg, hbg⟩ : ∃ bg, (if en + L < x0 then x0 else en + L) = bg := ⟨_, rfl⟩
        rw [hbg]
        have hbm : bg = max (en + L) x0 := by rw [← hbg]; split <;> omega
        clear hbg
        obtain ⟨pk2, hpk2⟩ : ∃ x, (if pk < ld + (x4 - x3) then ld + (x4 - x3) else pk) = x := ⟨_, rfl⟩
        have hpm : pk2 = max pk (ld + (x4 - x3)) := by rw [← hpk2]; split <;> omega
        have hstep : runT (gOf R) S (O.take (k + 1)) ⟨[], b, ld0, ld0, 0, 0⟩ = some ⟨bs ++ [bg], bg + x2, ld + (x4 - x3), pk2, wt + (bg - (en + L)), ((i + 1 : Nat) : Int)⟩ := by
          rw [runT_take HX.out HRUN.out]
          exact stepT_put (a := en + L) (by dsimp only; rw [HL.out]) (by rw [HSQ.out]; dsimp only; omega) rfl (by rw [HSQ.out]; exact hbm) (by rw [HSQ.out]) (by rw [HSQ.out]) hpm rfl (by omega)
        have hdv2 : DvOk S (k + 1) ⟨bs ++ [bg], bg + x2, ld + (x4 - x3), pk2, wt + (bg - (en + L)), ((i + 1 : Nat) : Int)⟩ :=
          stepT_ok HT.out (by omega) HDV.out (i := (i : Int)) (by omega) (by omega) (by rw [← runT_take HX.out HRUN.out]; exact hstep)
        have hbr : bg ≤ 20000 ∧ 0 ≤ bg ∧ en + L ≤ bg := by omega
        have HSTEP := Lib.hid hstep; have HDV2 := Lib.hid hdv2; have HPK := Lib.hid hpk2; clear hstep hdv2 hpm hpk2 hbm
        generalize hX : w4.drewN nq0 = w5
        replace HZA := Lib.hid (show Has w5 _ _ _ by rw [← hX]; exact HZA.out); replace HZR := Lib.hid (show Has w5 _ _ _ by rw [← hX]; exact HZR.out); replace HZD := Lib.hid (show Has w5 _ _ _ by rw [← hX]; exact HZD.out)
        have hk5 : Has w5 wr.heap.size 50 #[.int .i64 x0, .int .i64 x1, .int .i64 x2, .int .i64 x3, .int .i64 x4] := by rw [← hX]; exact hk4
        replace OWN := Lib.hid (show w5.ownsRow w3.heap.size 3 1 (.slice A' k c') k (intV bs) by rw [← hX]; exact OWN.out)
        have hb6 : Below w.heap.size w w5 := by rw [← hX]; exact below_drewN hb5 _
        have hw5 : w3.heap.size + 1 < w5.heap.size := has_lt HZD.out
        clear hX hx0 hx1 hx2 hx3 hx4 hk4 hb5 hzd4 hbx4
        obtain ⟨i0, hi0, hz0, hz1, hz2⟩ := info_parts intInfo
        have hd1 := has_cell HZD.out 1 rfl
        go_wp2_with (at_builtin; go_must (refine list_app rfl _ _ 29 rfl w3.heap.size 3 i0 (.int .i64 0) 1 8 Try.underlying29 hi0 hz0 hz1 hz2 rfl (by decide) _ k _ rfl (OWN.out.alloc _) (some ⟨w5.heap.size, 0, none⟩) 1 1 [.int .i64 bg] rfl (src_one (has_new _ _ _)) (by unfold maxLen; omega) (by omega) (by simp; omega) ?_))
        intro A3 c3 w6 hown3 hgrow3 hrow3
        clear hd1
        have zd := has_gt (has_alloc HZD.out _) hgrow3 (fun b e => (hrow3 b e).2) (by decide)
        have za := has_gt (has_alloc HZA.out _) hgrow3 (fun b e => (hrow3 b e).2) (by decide)
        have zr := has_gt (has_alloc HZR.out _) hgrow3 (fun b e => (hrow3 b e).2) (by decide)
        have zs := has_gt (has_alloc hk5 _) hgrow3 (fun b e => (hrow3 b e).2) (by decide)
        have zb : Below w.heap.size w w6 := (hb6.alloc (by omega) _).grown hgrow3 (by simp; omega) (fun b hb => by have := (hrow3 b hb).1; omega)
        have own3 : w6.ownsRow w3.heap.size 3 1 (.slice A3 (k + 1) c3) (k + 1) (intV (bs ++ [bg])) := by simpa [intV] using hown3
        have zd0 := has_cell zd 0 rfl; have zd1 := has_cell zd 1 rfl; have zd2 := has_cell zd 2 rfl; have zd3 := has_cell zd 3 rfl; have zd4 := has_cell zd 4 rfl
        have zf0 := has_free zd 0; have zf1 := has_free zd 1; have zf2 := has_free zd 2; have zf3 := has_free zd 3; have zf4 := has_free zd 4
        have zs2 := has_cell zs 2 rfl; have zs3 := has_cell zs 3 rfl; have zs4 := has_cell zs 4 rfl
        have hzsne : wr.heap.size ≠ w3.heap.size + 1 := by omega
        have hzdl := has_lt zd
        have ZD := Lib.hid zd; have ZA := Lib.hid za; have ZR := Lib.hid zr; have ZB6 := Lib.hid zb; have OW3 := Lib.hid own3
        clear zd za zr zs zb own3 hown3 hgrow3 hrow3 HZA HZR HZD OWN hk5 hb6 HB hi0 hz0 hz1 hz2
        go_wp2_with (go_at_call 43; refine (HPL.out _).mono ?_; rintro e w7 ⟨rfl, hw⟩; rw [hw]; clear hw)
        go_roundw
        case rel =>
          rw [HPK.out]
          generalize hX : World.setCell _ _ _ = w8
          have ho8 : Only w6 (w3.heap.size + 1) w8 := by rw [← hX]; exact only_set (only_set (only_set (only_set (only_refl _ _) _ _) _ _) _ _) _ _
          have zd8 : Has w8 (w3.heap.size + 1) 40 #[.slice (some ⟨bo, fo, none⟩) O.length cO, .slice A3 (k + 1) c3, .int .i64 (bg + x2), .int .i64 pk2, .int .i64 (wt + (bg - (en + L)))] := by rw [← hX]; simpa using has_set (has_set (has_set (has_set ZD.out 1 _) 4 _) 2 _) 3 _
          have hz6 := ZB6.out.size
          exact ⟨k + 1, i + 1, bs ++ [bg], bg + x2, ld + (x4 - x3), pk2, wt + (bg - (en + L)), A3, c3, by omega, by go_num, rfl, by go_num, HSTEP.out, HDV2.out, own_kt OW3.out ZD.out (by decide) ho8, zd8, has_onl ZA.out ho8 (by omega), has_onl ZR.out ho8 (by omega), ZB6.out.trans (only_below ho8 (by omega) (by omega))⟩
        case measure => simp [intOf]; omega
    · have hkl : k = O.length := by omega
      subst hkl
      have hrun2 : runT (gOf R) S O ⟨[], b, loadT S O, loadT S O, 0, 0⟩ = some ⟨bs, en, ld, pk, wt, (p : Int)⟩ := by have := HRUN.out; rw [List.take_length] at this; rw [HL0.out]; exact this
      have HRUN2 := Lib.hid hrun2; clear hrun2 HRUN
      have hbx : w.heap.size < wr.heap.size := has_lt hZA
      have hzd : w3.heap.size + 1 < wr.heap.size := has_lt hZD
      have za1 := has_cell hZA 1 rfl; have za2 := has_cell hZA 2 rfl
      have zd0 := has_cell hZD 0 rfl; have zd1 := has_cell hZD 1 rfl; have zd2 := has_cell hZD 2 rfl; have zd3 := has_cell hZD 3 rfl; have zd4 := has_cell hZD 4 rfl
      have zr0 := has_cell hZR 0 rfl; have zr1 := has_cell hZR 1 rfl; have zr2 := has_cell hZR 2 rfl; have zr3 := has_cell hZR 3 rfl; have zr4 := has_cell hZR 4 rfl; have zf0 := has_free hZR 0; have zf1 := has_free hZR 1; have zf2 := has_free hZR 2; have zf3 := has_free hZR 3; have zf4 := has_free hZR 4; have hzl := has_lt hZR
      by_cases hbig : r < pk
      · have HV := Lib.hid (show driveT b r (gOf R) S O = none from driveT_big HRUN2.out hbig)
        have HB := Lib.hid hb; clear hb
        go_wp2_with fail
        refine bodyPost_ret (v := .tuple #[.agg #[.slice none 0 0, .slice none 0 0, .int .i64 0, .int .i64 0, .int .i64 0], .bool false]) (by simp [results, Try.results32, go_sem, zr0, zr1, zr2, zr3, zr4, zf0, zf1, zf2, zf3, zf4, hzl]) rfl ⟨.inl ⟨HV.out, rfl⟩, ?_⟩
        exact ((((HB.out.setCell (by simp) _).setCell (by simp) _).setCell (by simp) _).setCell (by simp) _).setCell (by simp) _
      have HYES := Lib.hid (driveT_yes (r := r) HRUN2.out (show _ ≤ r by dsimp only; omega))
      by_cases hnz : (0 : Int) < (O.length : Int)
      · have hne : O ≠ [] := fun e => by subst e; simp at hnz
        obtain ⟨⟨XA, xc, xl⟩, hxr2, hlen, hq⟩ := leg_row HT.out (p := p) (by omega)
        obtain ⟨bl, fl, x', hAL, hbL, hx', hl0⟩ := (HR.out.rows.later hB hb).at_ (k := p) (by have := (List.getElem?_eq_some_iff.1 hxr2).1; exact this)
        obtain rfl : x' = ⟨XA, xc, xl⟩ := by rw [hxr2] at hx'; injection hx' with hx'; exact hx'.symm
        dsimp only at hlen hq hl0
        obtain ⟨b3, f3, y, hA3, hb3, hy, hy0⟩ := ((HR.out.vals _ (List.mem_of_getElem? hxr2)).1.later hB hb).at_ (k := 0) (by dsimp only; omega)
        dsimp only at hA3 hy
        rw [Nat.add_zero] at hy0
        have hleg := leg_in HT.out (i := (p : Int)) (j := 0) (by omega) (by omega) (by omega) (by omega)
        obtain rfl : legT (gOf R) p 0 = y := by have := hq 0 (by omega); rw [hy] at this; injection this with this; exact this.symm
        obtain ⟨L, hL⟩ : ∃ L, legT (gOf R) p 0 = L := ⟨_, rfl⟩
        rw [hL] at hleg hy0
        have HHOME := Lib.hid (show driveT b r (gOf R) S O = some ⟨bs, en + L, ld, pk, wt, (p : Int)⟩ by rw [HYES.out, homeT, if_neg hne, hL])
        have hpl : (p : Int) < (R.length : Int) := by have := (List.getElem?_eq_some_iff.1 hxr2).1; omega
        have hlen0 : (0 : Int) < (xl.length : Int) := by omega
        subst hAL hA3
        clear hL hxr2 hx' hlen hq hy hne
        have HB := Lib.hid hb; clear hb
        have zdf2 := has_free hZD 2
        have HZD := Lib.hid hZD; have HZR := Lib.hid hZR; have HZA := Lib.hid hZA; clear hZD hZR hZA
        go_upto_region 22 with fail
        go_region
        go_wp2_with fail
        refine bodyPost_ret (v := .tuple #[.agg #[.slice AO O.length cO, .slice A' O.length c', .int .i64 (en + L), .int .i64 pk, .int .i64 wt], .bool true]) (by simp [results, Try.results32, go_sem, zr0, zr1, zr2, zr3, zr4, zf0, zf1, zf2, zf3, zf4, zd0, zd1, zd2, zd3, zd4, hzl]) rfl ⟨.inr ⟨_, A', c', HHOME.out, G1.out, ?_, rfl⟩, ?_⟩
        · dsimp only
          have h3 : w.heap.size ≤ w3.heap.size := by omega
          have hzr : Has (wr.setCell ⟨w3.heap.size + 1, 2, none⟩ (.int .i64 (en + L))) (w.heap.size + 1) 40 #[.slice none 0 0, .slice none 0 0, .int .i64 0, .int .i64 0, .int .i64 0] := has_onl HZR.out (only_set (only_refl _ _) 2 (.int .i64 (en + L))) (by omega)
          with_reducible exact or_dr (OR.more (or_own' (own_kt (own_kt OWN.out HZD.out (by decide) (only_set (only_refl _ _) _ _)) hzr (by decide) (only_set5 _ _ _ _ _ _ _))) h3)
        · have h3 : w.heap.size ≤ w3.heap.size + 1 := by omega
          with_reducible exact Below.drew (below_set5 (Nat.le_succ _) _ _ _ _ _ (Below.setCell HB.out h3 _))
      · have hol0 : O.length = 0 := by omega
        have HHOME := Lib.hid (show driveT b r (gOf R) S O = some ⟨bs, en, ld, pk, wt, (p : Int)⟩ by rw [HYES.out, homeT, if_pos (List.eq_nil_of_length_eq_zero hol0)])
        clear hol0
        have HB := Lib.hid hb; clear hb
        have HZD := Lib.hid hZD; have HZR := Lib.hid hZR; have HZA := Lib.hid hZA; clear hZD hZR hZA
        go_wp2_with fail
        refine bodyPost_ret (v := .tuple #[.agg #[.slice AO O.length cO, .slice A' O.length c', .int .i64 en, .int .i64 pk, .int .i64 wt], .bool true]) (by simp [results, Try.results32, go_sem, zr0, zr1, zr2, zr3, zr4, zf0, zf1, zf2, zf3, zf4, zd0, zd1, zd2, zd3, zd4, hzl]) rfl ⟨.inr ⟨_, A', c', HHOME.out, G1.out, ?_, rfl⟩, ?_⟩
        · dsimp only
          have h3 : w.heap.size ≤ w3.heap.size := by omega
          with_reducible exact OR.more (or_own' (own_kt OWN.out HZR.out (by decide) (only_set5 _ _ _ _ _ _ _))) h3
        · with_reducible exact below_set5 (Nat.le_succ _) _ _ _ _ _ HB.out
end Go.Proofs.Ytfimdhbcifjioaa
