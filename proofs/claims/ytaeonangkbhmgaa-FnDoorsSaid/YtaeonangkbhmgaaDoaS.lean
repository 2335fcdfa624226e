/- Chapter 4: the contract of the model's DoActs. -/
import Derived.Test.YtaeonangkbhmgaaDoaI
import Derived.Test.YtaeonangkbhmgaaDorL
import Derived.Deep.RegionHeld3
namespace Go.Proofs.Ytaeonangkbhmgaa
open Go.RowKit
set_option linter.unusedVariables false
theorem keep6 {w0 W W' : World} {g h j : Nat} {x0 x1 x2 x3 x4 y0 : Value} (k : ((W.cell? ⟨g, 0, none⟩ = some x0 ∧ W.cell? ⟨g, 1, none⟩ = some x1 ∧ W.cell? ⟨g, 2, none⟩ = some x2 ∧ W.cell? ⟨g, 3, none⟩ = some x3 ∧ W.cell? ⟨g, 4, none⟩ = some x4 ∧ W.cell? ⟨h, j, none⟩ = some y0) ∧ Below w0.heap.size w0 W)) (hb : Below W.heap.size W W') : ((W'.cell? ⟨g, 0, none⟩ = some x0 ∧ W'.cell? ⟨g, 1, none⟩ = some x1 ∧ W'.cell? ⟨g, 2, none⟩ = some x2 ∧ W'.cell? ⟨g, 3, none⟩ = some x3 ∧ W'.cell? ⟨g, 4, none⟩ = some x4 ∧ W'.cell? ⟨h, j, none⟩ = some y0) ∧ Below w0.heap.size w0 W') :=
  ⟨⟨ccall k.1.1 hb, ccall k.1.2.1 hb, ccall k.1.2.2.1 hb, ccall k.1.2.2.2.1 hb, ccall k.1.2.2.2.2.1 hb, ccall k.1.2.2.2.2.2 hb⟩, bthen k.2 hb⟩
theorem cfar {W W' : World} {q : Addr} {v : Value} {B : Nat} (h : W.cell? q = some v) (hb : Below B W W') (hq : q.block < B) : W'.cell? q = some v := (hb.cell hq).trans h
theorem keep6w {w0 W W' : World} {g h j : Nat} {x0 x1 x2 x3 x4 y0 : Value} (hg : g < w0.heap.size) (hh : h < w0.heap.size) (k : ((W.cell? ⟨g, 0, none⟩ = some x0 ∧ W.cell? ⟨g, 1, none⟩ = some x1 ∧ W.cell? ⟨g, 2, none⟩ = some x2 ∧ W.cell? ⟨g, 3, none⟩ = some x3 ∧ W.cell? ⟨g, 4, none⟩ = some x4 ∧ W.cell? ⟨h, j, none⟩ = some y0) ∧ Below w0.heap.size w0 W)) (hb : Below w0.heap.size W W') : ((W'.cell? ⟨g, 0, none⟩ = some x0 ∧ W'.cell? ⟨g, 1, none⟩ = some x1 ∧ W'.cell? ⟨g, 2, none⟩ = some x2 ∧ W'.cell? ⟨g, 3, none⟩ = some x3 ∧ W'.cell? ⟨g, 4, none⟩ = some x4 ∧ W'.cell? ⟨h, j, none⟩ = some y0) ∧ Below w0.heap.size w0 W') :=
  ⟨⟨cfar k.1.1 hb hg, cfar k.1.2.1 hb hg, cfar k.1.2.2.1 hb hg, cfar k.1.2.2.2.1 hb hg, cfar k.1.2.2.2.2.1 hb hg, cfar k.1.2.2.2.2.2 hb hh⟩, k.2.trans hb⟩
def CutAct (k2 s2 : Int) (l2 o2 f2 : Bool) (w0 : World) (p : Value) (W : World) : Prop := ∃ g : Nat, p = .pointer (some ⟨g, 0, none⟩) ∧ w0.heap.size ≤ g ∧ Has W g 27 #[.int .i64 k2, .int .i64 s2, .bool l2, .bool o2, .bool f2] ∧ Below w0.heap.size w0 W
set_option maxRecDepth 100000 in
set_option maxHeartbeats 4000000 in
theorem doaS_no1 (w : World) (B : Nat) (k s : Int) (l o f : Bool) (A : Option Addr) (c : Nat) (L : List Int) (hl : L.length ≤ maxLen) (hB : B ≤ w.heap.size) (hS : IL w B A L) (hok : doorB k s l o f = false) : Calls Try.prog 16 #[.agg #[.int .i64 k, .int .i64 s, .bool l, .bool o, .bool f], .slice A L.length c] w (DoaAns (doActs ⟨k, s, l, o, f⟩ L) w) := by
  unfold maxLen at hl
  have HV := Lib.hid (doActs_no1 (d := ⟨k, s, l, o, f⟩) (l := L) hok)
  have HK := Lib.hid hok; clear hok
  have HS := Lib.hid hS; clear hS
  go_enter Try.func16, Try.ntmps16
  go_wp2_with fail
  generalize hX : (w.alloc (.cells #[.int .i64 k, .int .i64 s, .bool l, .bool o, .bool f] 27)) = w1
  have hb : Below w.heap.size w w1 := by rw [← hX]; exact balloc _ _
  have hk : Has w1 w.heap.size 27 #[.int .i64 k, .int .i64 s, .bool l, .bool o, .bool f] := by rw [← hX]; exact has_new _ _ _
  have hzw1 : w1.heap.size = w.heap.size + 1 := by rw [← hX]; simp
  clear hX
  have zb := hb; clear hb
  have za := hk; clear hk
  generalize hX : (w1.alloc (.cells #[.int .i64 0, .int .i64 0, .bool false, .bool false, .bool false] 27)) = w2
  have hb : Below w1.heap.size w1 w2 := by rw [← hX]; exact balloc _ _
  have hk : Has w2 w1.heap.size 27 #[.int .i64 0, .int .i64 0, .bool false, .bool false, .bool false] := by rw [← hX]; exact has_new _ _ _
  have hzw2 : w2.heap.size = w.heap.size + 2 := by rw [← hX]; simp [hzw1]
  clear hX
  rw [hzw1] at hk
  replace za := has_call za hb
  replace zb := bthen zb hb; clear hb
  have zr := hk; clear hk
  clear hzw1
  generalize hX : (w2.alloc (.cells #[] 3)) = w3
  have hb : Below w2.heap.size w2 w3 := by rw [← hX]; exact balloc _ _
  have OW := Lib.hid (show w3.ownsRow (w.heap.size + 2) 3 1 (.slice (some ⟨w.heap.size + 1 + 1, 0, none⟩) 0 0) 0 [] from by rw [← hX]; exact owns_at _ _ _ _ _ (by omega) (by omega))
  clear hzw2
  clear hX
  replace za := has_call za hb
  replace zr := has_call zr hb
  replace zb := bthen zb hb; clear hb
  refine (doorS_any _ k s l o f).mono ?_
  rintro e w4 ⟨rfl, hb⟩
  rw [HK.out]
  have ow9 := own_keep OW.out (g := w.heap.size) (only_of_below hb) (by omega); clear OW; have OW := Lib.hid ow9; clear ow9
  replace za := has_call za hb
  replace zr := has_call zr hb
  replace zb := bthen zb hb; clear hb
  have zac0 := has_cell za 0 rfl; have zac1 := has_cell za 1 rfl; have zac2 := has_cell za 2 rfl; have zac3 := has_cell za 3 rfl; have zac4 := has_cell za 4 rfl
  have zaf0 := has_free za 0; have zaf1 := has_free za 1; have zaf2 := has_free za 2; have zaf3 := has_free za 3; have zaf4 := has_free za 4
  have zalt := has_lt za
  have zrc0 := has_cell zr 0 rfl; have zrc1 := has_cell zr 1 rfl; have zrc2 := has_cell zr 2 rfl; have zrc3 := has_cell zr 3 rfl; have zrc4 := has_cell zr 4 rfl
  have zrf0 := has_free zr 0; have zrf1 := has_free zr 1; have zrf2 := has_free zr 2; have zrf3 := has_free zr 3; have zrf4 := has_free zr 4
  have zrlt := has_lt zr
  have ZAH := Lib.hid za; clear za
  have ZRH := Lib.hid zr; clear zr
  have ZB := Lib.hid zb; clear zb
  go_wp2_with fail
  refine bodyPost_ret (v := .tuple #[.agg #[.int .i64 k, .int .i64 s, .bool l, .bool o, .bool f], .slice (some ⟨w.heap.size + 1 + 1, 0, none⟩) 0 0]) (by simp [results, Try.results16, go_sem, zac0, zac1, zac2, zac3, zac4, zaf0, zaf1, zaf2, zaf3, zaf4, zalt, zrc0, zrc1, zrc2, zrc3, zrc4, zrf0, zrf1, zrf2, zrf3, zrf4, zrlt]) rfl ⟨_, _, doa_ne HV.out rfl, ?_, ?_⟩
  · rw [HV.out]; exact .inl rfl
  · repeat (first | (with_reducible exact ZB.out) | (with_reducible refine Below.alloc ?_ (by have h9 := ZB.out.size; simp <;> omega) _) | (with_reducible refine Below.drew ?_) | (with_reducible refine Below.setCell ?_ (by first | exact Nat.le_refl _ | exact Nat.le_add_right _ _ | (simp <;> omega)) _))
set_option maxRecDepth 100000 in
set_option maxHeartbeats 4000000 in
theorem doaS_big (w : World) (B : Nat) (k s : Int) (l o f : Bool) (A : Option Addr) (c : Nat) (L : List Int) (hl : L.length ≤ maxLen) (hB : B ≤ w.heap.size) (hS : IL w B A L) (hok : doorB k s l o f = true) (hbig : 200 < L.length) : Calls Try.prog 16 #[.agg #[.int .i64 k, .int .i64 s, .bool l, .bool o, .bool f], .slice A L.length c] w (DoaAns (doActs ⟨k, s, l, o, f⟩ L) w) := by
  unfold maxLen at hl
  have HV := Lib.hid (doActs_no2 (d := ⟨k, s, l, o, f⟩) (l := L) (actsB_big hbig))
  have HK := Lib.hid hok; clear hok
  have HS := Lib.hid hS; clear hS
  go_enter Try.func16, Try.ntmps16
  go_wp2_with fail
  generalize hX : (w.alloc (.cells #[.int .i64 k, .int .i64 s, .bool l, .bool o, .bool f] 27)) = w1
  have hb : Below w.heap.size w w1 := by rw [← hX]; exact balloc _ _
  have hk : Has w1 w.heap.size 27 #[.int .i64 k, .int .i64 s, .bool l, .bool o, .bool f] := by rw [← hX]; exact has_new _ _ _
  have hzw1 : w1.heap.size = w.heap.size + 1 := by rw [← hX]; simp
  clear hX
  have zb := hb; clear hb
  have za := hk; clear hk
  generalize hX : (w1.alloc (.cells #[.int .i64 0, .int .i64 0, .bool false, .bool false, .bool false] 27)) = w2
  have hb : Below w1.heap.size w1 w2 := by rw [← hX]; exact balloc _ _
  have hk : Has w2 w1.heap.size 27 #[.int .i64 0, .int .i64 0, .bool false, .bool false, .bool false] := by rw [← hX]; exact has_new _ _ _
  have hzw2 : w2.heap.size = w.heap.size + 2 := by rw [← hX]; simp [hzw1]
  clear hX
  rw [hzw1] at hk
  replace za := has_call za hb
  replace zb := bthen zb hb; clear hb
  have zr := hk; clear hk
  clear hzw1
  generalize hX : (w2.alloc (.cells #[] 3)) = w3
  have hb : Below w2.heap.size w2 w3 := by rw [← hX]; exact balloc _ _
  have OW := Lib.hid (show w3.ownsRow (w.heap.size + 2) 3 1 (.slice (some ⟨w.heap.size + 1 + 1, 0, none⟩) 0 0) 0 [] from by rw [← hX]; exact owns_at _ _ _ _ _ (by omega) (by omega))
  clear hzw2
  clear hX
  replace za := has_call za hb
  replace zr := has_call zr hb
  replace zb := bthen zb hb; clear hb
  refine (doorS_any _ k s l o f).mono ?_
  rintro e w4 ⟨rfl, hb⟩
  rw [HK.out]
  have ow9 := own_keep OW.out (g := w.heap.size) (only_of_below hb) (by omega); clear OW; have OW := Lib.hid ow9; clear ow9
  replace za := has_call za hb
  replace zr := has_call zr hb
  replace zb := bthen zb hb; clear hb
  have zac0 := has_cell za 0 rfl; have zac1 := has_cell za 1 rfl; have zac2 := has_cell za 2 rfl; have zac3 := has_cell za 3 rfl; have zac4 := has_cell za 4 rfl
  have zaf0 := has_free za 0; have zaf1 := has_free za 1; have zaf2 := has_free za 2; have zaf3 := has_free za 3; have zaf4 := has_free za 4
  have zalt := has_lt za
  have zrc0 := has_cell zr 0 rfl; have zrc1 := has_cell zr 1 rfl; have zrc2 := has_cell zr 2 rfl; have zrc3 := has_cell zr 3 rfl; have zrc4 := has_cell zr 4 rfl
  have zrf0 := has_free zr 0; have zrf1 := has_free zr 1; have zrf2 := has_free zr 2; have zrf3 := has_free zr 3; have zrf4 := has_free zr 4
  have zrlt := has_lt zr
  have ZAH := Lib.hid za; clear za
  have ZRH := Lib.hid zr; clear zr
  have ZB := Lib.hid zb; clear zb
  go_wp2_with fail
  refine bodyPost_ret (v := .tuple #[.agg #[.int .i64 k, .int .i64 s, .bool l, .bool o, .bool f], .slice (some ⟨w.heap.size + 1 + 1, 0, none⟩) 0 0]) (by simp [results, Try.results16, go_sem, zac0, zac1, zac2, zac3, zac4, zaf0, zaf1, zaf2, zaf3, zaf4, zalt, zrc0, zrc1, zrc2, zrc3, zrc4, zrf0, zrf1, zrf2, zrf3, zrf4, zrlt]) rfl ⟨_, _, doa_ne HV.out rfl, ?_, ?_⟩
  · rw [HV.out]; exact .inl rfl
  · repeat (first | (with_reducible exact ZB.out) | (with_reducible refine Below.alloc ?_ (by have h9 := ZB.out.size; simp <;> omega) _) | (with_reducible refine Below.drew ?_) | (with_reducible refine Below.setCell ?_ (by first | exact Nat.le_refl _ | exact Nat.le_add_right _ _ | (simp <;> omega)) _))
set_option maxRecDepth 100000 in
set_option maxHeartbeats 4000000 in
theorem doaS_yes (w : World) (B : Nat) (k s : Int) (l o f : Bool) (A : Option Addr) (c : Nat) (L : List Int) (hl : L.length ≤ maxLen) (hB : B ≤ w.heap.size) (hS : IL w B A L) (hok : doorB k s l o f = true) (hlen : L.length ≤ 200) : Calls Try.prog 16 #[.agg #[.int .i64 k, .int .i64 s, .bool l, .bool o, .bool f], .slice A L.length c] w (DoaAns (doActs ⟨k, s, l, o, f⟩ L) w) := by
  unfold maxLen at hl
  have HK := Lib.hid hok; clear hok
  have HS := Lib.hid hS; clear hS
  go_enter Try.func16, Try.ntmps16
  go_wp2_with fail
  generalize hX : (w.alloc (.cells #[.int .i64 k, .int .i64 s, .bool l, .bool o, .bool f] 27)) = w1
  have hb : Below w.heap.size w w1 := by rw [← hX]; exact balloc _ _
  have hk : Has w1 w.heap.size 27 #[.int .i64 k, .int .i64 s, .bool l, .bool o, .bool f] := by rw [← hX]; exact has_new _ _ _
  have hzw1 : w1.heap.size = w.heap.size + 1 := by rw [← hX]; simp
  clear hX
  have zb := hb; clear hb
  have za := hk; clear hk
  generalize hX : (w1.alloc (.cells #[.int .i64 0, .int .i64 0, .bool false, .bool false, .bool false] 27)) = w2
  have hb : Below w1.heap.size w1 w2 := by rw [← hX]; exact balloc _ _
  have hk : Has w2 w1.heap.size 27 #[.int .i64 0, .int .i64 0, .bool false, .bool false, .bool false] := by rw [← hX]; exact has_new _ _ _
  have hzw2 : w2.heap.size = w.heap.size + 2 := by rw [← hX]; simp [hzw1]
  clear hX
  rw [hzw1] at hk
  replace za := has_call za hb
  replace zb := bthen zb hb; clear hb
  have zr := hk; clear hk
  clear hzw1
  generalize hX : (w2.alloc (.cells #[] 3)) = w3
  have hb : Below w2.heap.size w2 w3 := by rw [← hX]; exact balloc _ _
  have OW := Lib.hid (show w3.ownsRow (w.heap.size + 2) 3 1 (.slice (some ⟨w.heap.size + 1 + 1, 0, none⟩) 0 0) 0 [] from by rw [← hX]; exact owns_at _ _ _ _ _ (by omega) (by omega))
  clear hzw2
  clear hX
  replace za := has_call za hb
  replace zr := has_call zr hb
  replace zb := bthen zb hb; clear hb
  refine (doorS_any _ k s l o f).mono ?_
  rintro e w4 ⟨rfl, hb⟩
  rw [HK.out]
  have ow9 := own_keep OW.out (g := w.heap.size) (only_of_below hb) (by omega); clear OW; have OW := Lib.hid ow9; clear ow9
  replace za := has_call za hb
  replace zr := has_call zr hb
  replace zb := bthen zb hb; clear hb
  have zac0 := has_cell za 0 rfl; have zac1 := has_cell za 1 rfl; have zac2 := has_cell za 2 rfl; have zac3 := has_cell za 3 rfl; have zac4 := has_cell za 4 rfl
  have zaf0 := has_free za 0; have zaf1 := has_free za 1; have zaf2 := has_free za 2; have zaf3 := has_free za 3; have zaf4 := has_free za 4
  have zalt := has_lt za
  have zrc0 := has_cell zr 0 rfl; have zrc1 := has_cell zr 1 rfl; have zrc2 := has_cell zr 2 rfl; have zrc3 := has_cell zr 3 rfl; have zrc4 := has_cell zr 4 rfl
  have zrf0 := has_free zr 0; have zrf1 := has_free zr 1; have zrf2 := has_free zr 2; have zrf3 := has_free zr 3; have zrf4 := has_free zr 4
  have zrlt := has_lt zr
  have ZAH := Lib.hid za; clear za
  have ZRH := Lib.hid zr; clear zr
  have ZB := Lib.hid zb; clear zb
  go_wp2_with fail
  go_loop [7] (fun iv => ∃ i : Nat, i ≤ L.length ∧ iv = .int .i64 i ∧ ∀ j a, j < i → L[j]? = some a → inR a 1 9 = true) (fun iv => L.length - (intOf iv).toNat)
  case atStart => exact ⟨0, Nat.zero_le _, rfl, fun j a h => absurd h (by omega)⟩
  case round =>
    obtain ⟨i, hi, rfl, hall⟩ := hrel
    have HALL := Lib.hid hall; clear hall
    by_cases hlt : i < L.length
    · obtain ⟨b, off, x, rfl, hbB, hx, hc0⟩ := (HS.out.below (ZB.out.mono hB)).at_ hlt
      have HX := Lib.hid hx; clear hx
      cases hr : inR x 1 9
      · have HV := Lib.hid (doActs_no2 (d := ⟨k, s, l, o, f⟩) (l := L) (actsB_bad HX.out hr))
        go_wp2_with (first | (go_at_call 43; refine (inR_any _ _ _ _).mono ?_; rintro e w9 ⟨rfl, hw⟩; rw [hw, hr]; clear hw))
        refine bodyPost_ret (v := .tuple #[.agg #[.int .i64 k, .int .i64 s, .bool l, .bool o, .bool f], .slice (some ⟨w.heap.size + 1 + 1, 0, none⟩) 0 0]) (by simp [results, Try.results16, go_sem, zac0, zac1, zac2, zac3, zac4, zaf0, zaf1, zaf2, zaf3, zaf4, zalt, zrc0, zrc1, zrc2, zrc3, zrc4, zrf0, zrf1, zrf2, zrf3, zrf4, zrlt]) rfl ⟨_, _, doa_ne HV.out rfl, ?_, ?_⟩
        · rw [HV.out]; exact .inl rfl
        · repeat (first | (with_reducible exact ZB.out) | (with_reducible refine Below.alloc ?_ (by have h9 := ZB.out.size; simp <;> omega) _) | (with_reducible refine Below.drew ?_) | (with_reducible refine Below.setCell ?_ (by first | exact Nat.le_refl _ | exact Nat.le_add_right _ _ | (simp <;> omega)) _))
      · have HR := Lib.hid hr
        go_wp2_with (first | (go_at_call 43; refine (inR_any _ _ _ _).mono ?_; rintro e w9 ⟨rfl, hw⟩; rw [hw, hr]; clear hw))
        go_round
        case rel =>
          refine ⟨i + 1, by omega, by go_num, fun j a hj hja => ?_⟩
          by_cases e : j = i
          · subst e; rw [HX.out] at hja; injection hja with hja; subst hja; exact HR.out
          · exact HALL.out j a (by omega) hja
        case measure => simp [intOf]; omega
    · have hil : i = L.length := by omega
      have ha := actsB_all hlen (fun j a hj hja => HALL.out j a (by omega) hja)
      have HV := Lib.hid (doActs_yes (d := ⟨k, s, l, o, f⟩) (l := L) (by exact HK.out) ha)
      have HAT := Lib.hid (fun (i : Nat) (a : Int) (h : L[i]? = some a) => actsB_at ha h)
      clear ha HALL; subst hil
      go_wp2_with fail
      clear zac0 zac1 zac2 zac3 zac4 zaf0 zaf1 zaf2 zaf3 zaf4 zalt zrc0 zrc1 zrc2 zrc3 zrc4 zrf0 zrf1 zrf2 zrf3 zrf4 zrlt
      have za := ZAH.out; clear ZAH
      have zr := ZRH.out; clear ZRH
      have zb := ZB.out; clear ZB
      have ST : Hid (Has w4 w.heap.size 27 #[.int .i64 k, .int .i64 s, .bool l, .bool o, .bool f] ∧ Has w4 (w.heap.size + 1) 27 #[.int .i64 0, .int .i64 0, .bool false, .bool false, .bool false] ∧ Below w.heap.size w w4) := Lib.hid ⟨za, zr, zb⟩
      clear za zr zb
      go_loopw [6, 8] (fun cv iv wr => ∃ (i : Nat) (A' : Option Addr) (c' : Nat), i ≤ L.length ∧ iv = .int .i64 i ∧ cv = .slice A' (oAt ⟨k, s, l, o, f⟩ L i).length c' ∧ wr.ownsRow (w.heap.size + 2) 3 1 (.slice A' (oAt ⟨k, s, l, o, f⟩ L i).length c') (oAt ⟨k, s, l, o, f⟩ L i).length (intV (oAt ⟨k, s, l, o, f⟩ L i)) ∧ Has wr w.heap.size 27 (dAt ⟨k, s, l, o, f⟩ L i).A ∧ Has wr (w.heap.size + 1) 27 #[.int .i64 0, .int .i64 0, .bool false, .bool false, .bool false] ∧ Below w.heap.size w wr) (fun _ iv _ => L.length - (intOf iv).toNat)
      case atStart => exact ⟨0, _, _, Nat.zero_le _, rfl, rfl, OW.out, ST.out.1, ST.out.2.1, ST.out.2.2⟩
      case round =>
        obtain ⟨i, A9, c9, hi, rfl, rfl, own, hza, zr, zb⟩ := hrel
        clear OW ST
        have hol := oAt_len ⟨k, s, l, o, f⟩ L i
        obtain ⟨k1, s1, l1, o1, f1, hd⟩ : ∃ k1 s1 l1 o1 f1, dAt ⟨k, s, l, o, f⟩ L i = ⟨k1, s1, l1, o1, f1⟩ := ⟨_, _, _, _, _, rfl⟩
        rw [hd] at hza
        have za : Has wr w.heap.size 27 #[.int .i64 k1, .int .i64 s1, .bool l1, .bool o1, .bool f1] := hza
        clear hza
        have HD := Lib.hid hd; clear hd
        have hzw := has_lt zr
        have OW := Lib.hid own; clear own
        by_cases hlt : i < L.length
        · obtain ⟨b, off, x, rfl, hbB, hx, hc0⟩ := (HS.out.below (zb.mono hB)).at_ hlt
          have hr := HAT.out i x hx
          have HDS := Lib.hid (show dAt ⟨k, s, l, o, f⟩ L (i + 1) = actD ⟨k1, s1, l1, o1, f1⟩ x by rw [dAt_succ hx, HD.out])
          clear hx
          obtain ⟨k2, s2, l2, o2, f2, hd2⟩ : ∃ k2 s2 l2 o2 f2, actD ⟨k1, s1, l1, o1, f1⟩ x = ⟨k2, s2, l2, o2, f2⟩ := ⟨_, _, _, _, _, rfl⟩
          have HV2 := Lib.hid (show Value.agg (actD ⟨k1, s1, l1, o1, f1⟩ x).A = .agg #[.int .i64 k2, .int .i64 s2, .bool l2, .bool o2, .bool f2] by rw [hd2]; rfl)
          have HD2 := Lib.hid hd2; clear hd2
          have HR := Lib.hid hr; clear hr
          have hsw := zb.size
          go_upto_region 12 with fail
          have hgl := has_lt za
          have hbw : b < wr.heap.size := by omega
          have ZAH := Lib.hid za; clear za
          have ZRH := Lib.hid zr; clear zr
          have ZB := Lib.hid zb; clear zb; have HC0 := Lib.hid hc0; clear hc0
          go_cut [9] (fun p W => CutAct k2 s2 l2 o2 f2 wr p W)
          case first =>
            have S00 : (fun W : World => (W.cell? ⟨w.heap.size, 0, none⟩ = some (.int .i64 k1) ∧ W.cell? ⟨w.heap.size, 1, none⟩ = some (.int .i64 s1) ∧ W.cell? ⟨w.heap.size, 2, none⟩ = some (.bool l1) ∧ W.cell? ⟨w.heap.size, 3, none⟩ = some (.bool o1) ∧ W.cell? ⟨w.heap.size, 4, none⟩ = some (.bool f1) ∧ W.cell? ⟨b, off + i, none⟩ = some (.int .i64 x)) ∧ Below wr.heap.size wr W) wr := ⟨⟨has_cell ZAH.out 0 rfl, has_cell ZAH.out 1 rfl, has_cell ZAH.out 2 rfl, has_cell ZAH.out 3 rfl, has_cell ZAH.out 4 rfl, HC0.out⟩, Below.refl _ _⟩
            have S0 : (fun W : World => (W.cell? ⟨w.heap.size, 0, none⟩ = some (.int .i64 k1) ∧ W.cell? ⟨w.heap.size, 1, none⟩ = some (.int .i64 s1) ∧ W.cell? ⟨w.heap.size, 2, none⟩ = some (.bool l1) ∧ W.cell? ⟨w.heap.size, 3, none⟩ = some (.bool o1) ∧ W.cell? ⟨w.heap.size, 4, none⟩ = some (.bool f1) ∧ W.cell? ⟨b, off + i, none⟩ = some (.int .i64 x)) ∧ Below wr.heap.size wr W) wr.drew := ⟨⟨has_cell ZAH.out 0 rfl, has_cell ZAH.out 1 rfl, has_cell ZAH.out 2 rfl, has_cell ZAH.out 3 rfl, has_cell ZAH.out 4 rfl, HC0.out⟩, (Below.refl _ _).drew⟩
            go_region_held3 (fun W : World => (W.cell? ⟨w.heap.size, 0, none⟩ = some (.int .i64 k1) ∧ W.cell? ⟨w.heap.size, 1, none⟩ = some (.int .i64 s1) ∧ W.cell? ⟨w.heap.size, 2, none⟩ = some (.bool l1) ∧ W.cell? ⟨w.heap.size, 3, none⟩ = some (.bool o1) ∧ W.cell? ⟨w.heap.size, 4, none⟩ = some (.bool f1) ∧ W.cell? ⟨b, off + i, none⟩ = some (.int .i64 x)) ∧ Below wr.heap.size wr W) (first | (with_reducible assumption) | (with_reducible refine keep6 ?_ (balloc _ _)); (with_reducible assumption) | (with_reducible refine keep6 ?_ (balloc _ _).drew); (with_reducible assumption) | (with_reducible refine keep6w hgl hbw ?_ (bset5 (Nat.le_refl _) _ _ _ _ _ (Below.refl _ _))); (with_reducible assumption)) (first
              | (go_at_call 44; refine (actS_any _ k1 s1 l1 o1 f1 x HR.out).mono ?_; rintro e u3 ⟨rfl, hb3⟩; rw [HV2.out]; have S3 := keep6 (by with_reducible assumption) hb3; (first | (have mz : Has u3 _ 27 #[.int .i64 0, .int .i64 0, .bool false, .bool false, .bool false] := (by with_reducible exact has_call (has_new _ _ _) hb3)) | (have mz : Has u3 _ 27 #[.int .i64 0, .int .i64 0, .bool false, .bool false, .bool false] := (by with_reducible exact has_call (has_drew (has_new _ _ _)) hb3)) | skip); (first | (have z0 := has_cell mz 0 rfl; have f10 := has_free mz 0; have z1 := has_cell mz 1 rfl; have f11 := has_free mz 1; have z2 := has_cell mz 2 rfl; have f12 := has_free mz 2; have z3 := has_cell mz 3 rfl; have f13 := has_free mz 3; have z4 := has_cell mz 4 rfl; have f14 := has_free mz 4; have ltz := has_lt mz; have MZ := Lib.hid mz) | skip)))
            all_goals (go_wp2_with fail)
            all_goals (go_meet; first | exact ⟨_, rfl, Nat.le_refl _, hset5 MZ.out _ _ _ _ _, bset5 (Nat.le_refl _) _ _ _ _ _ S3.2⟩ | exact ⟨_, rfl, S3.2.size, has_new _ _ _, S3.2.alloc S3.2.size _⟩)
          case rest =>
            rename World => w7
            obtain ⟨g7, rfl, hg7, hk, hb⟩ := hcut
            have za := ZAH.out; clear ZAH
            have zr := ZRH.out; clear ZRH
            have zb := ZB.out; clear ZB hgl hbw HC0
            have ow9 := own_keep OW.out (g := w.heap.size) (only_of_below hb) (by omega); clear OW; have OW := Lib.hid ow9; clear ow9
            replace za := has_call za hb
            replace zr := has_call zr hb
            replace zb := bthen zb hb; clear hb
            have zx := hk; clear hk
            have hzl := has_lt zr
            by_cases heq : (⟨k2, s2, l2, o2, f2⟩ : Dr) = ⟨k1, s1, l1, o1, f1⟩
            · injection heq with e1 e2 e3 e4 e5
              subst e1 e2 e3 e4 e5
              have HO := Lib.hid (oAt_same (d := ⟨k, s, l, o, f⟩) (l := L) (k := i) (by rw [HDS.out, HD2.out, HD.out]))
              have HN := Lib.hid (HDS.out.trans HD2.out)
              clear HD HDS HD2 HV2
              have zac0 := has_cell za 0 rfl; have zac1 := has_cell za 1 rfl; have zac2 := has_cell za 2 rfl; have zac3 := has_cell za 3 rfl; have zac4 := has_cell za 4 rfl
              have zaf0 := has_free za 0; have zaf1 := has_free za 1; have zaf2 := has_free za 2; have zaf3 := has_free za 3; have zaf4 := has_free za 4
              have zalt := has_lt za
              have zxc0 := has_cell zx 0 rfl; have zxc1 := has_cell zx 1 rfl; have zxc2 := has_cell zx 2 rfl; have zxc3 := has_cell zx 3 rfl; have zxc4 := has_cell zx 4 rfl
              have zxlt := has_lt zx
              have ZAH := Lib.hid za; clear za
              have ZRH := Lib.hid zr; clear zr
              have ZXH := Lib.hid zx; clear zx
              have ZB := Lib.hid zb; clear zb
              go_wp2_with fail
              clear zac0 zac1 zac2 zac3 zac4 zaf0 zaf1 zaf2 zaf3 zaf4 zalt zxc0 zxc1 zxc2 zxc3 zxc4 zxlt
              have za := ZAH.out; clear ZAH
              have zr := ZRH.out; clear ZRH
              have zx := ZXH.out; clear ZXH
              have zb := ZB.out; clear ZB
              go_roundw
              case rel => exact ⟨i + 1, A9, c9, by omega, by go_num, by rw [HO.out], by rw [HO.out]; exact own_keep OW.out (oset5 (only_refl _ _) _ _ _ _ _) (by omega), by rw [HN.out]; exact hset5 za _ _ _ _ _, has_only_d zr (oset5 (only_refl _ _) _ _ _ _ _) (by omega), bset5 (Nat.le_refl _) _ _ _ _ _ zb⟩
              case measure => simp [intOf]; omega
            have HO := Lib.hid (oAt_more (d := ⟨k, s, l, o, f⟩) (l := L) (k := i) (by rw [HDS.out, HD2.out, HD.out]; exact heq))
            have HN := Lib.hid (HDS.out.trans HD2.out)
            have hcmp : ∀ W : World, (binOp .neq 27 (.agg #[.int .i64 k2, .int .i64 s2, .bool l2, .bool o2, .bool f2]) (.agg #[.int .i64 k1, .int .i64 s1, .bool l1, .bool o1, .bool f1])).run Try.prog W = .ok (.bool true) W := fun W => door_ne W heq
            clear HD HDS HD2 HV2 heq
            obtain ⟨i0, hi0, hz0, hz1, hz2⟩ := info_parts intInfo
            have zac0 := has_cell za 0 rfl; have zac1 := has_cell za 1 rfl; have zac2 := has_cell za 2 rfl; have zac3 := has_cell za 3 rfl; have zac4 := has_cell za 4 rfl
            have zalt := has_lt za
            have zxc0 := has_cell zx 0 rfl; have zxc1 := has_cell zx 1 rfl; have zxc2 := has_cell zx 2 rfl; have zxc3 := has_cell zx 3 rfl; have zxc4 := has_cell zx 4 rfl
            have zxlt := has_lt zx
            have ZAH := Lib.hid za; clear za
            have ZRH := Lib.hid zr; clear zr
            have ZXH := Lib.hid zx; clear zx
            have ZB := Lib.hid zb; clear zb
            go_wp2_with (at_builtin; go_must (refine list_app rfl _ _ 24 rfl (w.heap.size + 2) 3 i0 (.int .i64 0) 1 8 Try.underlying24 hi0 hz0 hz1 hz2 rfl (by decide) _ (oAt ⟨k, s, l, o, f⟩ L i).length _ rfl (OW.out.alloc _) (some ⟨w7.heap.size, 0, none⟩) 1 1 [.int .i64 (i : Int)] rfl (src_int (has_new _ _ _)) (by unfold maxLen; omega) (by omega) (by simp; omega) ?_))
            intro A3 c3 w9 hown3 hgrow3 hrow3
            clear zac0 zac1 zac2 zac3 zac4 zalt zxc0 zxc1 zxc2 zxc3 zxc4 zxlt
            have za := ZAH.out; clear ZAH
            have zr := ZRH.out; clear ZRH
            have zx := ZXH.out; clear ZXH
            have zb := ZB.out; clear ZB
            have za3 : Has w9 w.heap.size 27 #[.int .i64 k1, .int .i64 s1, .bool l1, .bool o1, .bool f1] := has_grown (has_alloc za _) hgrow3 (fun e => by have := (hrow3 _ e.symm).1; omega)
            have zr3 : Has w9 (w.heap.size + 1) 27 #[.int .i64 0, .int .i64 0, .bool false, .bool false, .bool false] := has_grown (has_alloc zr _) hgrow3 (fun e => by have := (hrow3 _ e.symm).1; omega)
            have zb3 : Below w.heap.size w w9 := (zb.alloc (by omega) _).grown hgrow3 (by simp; omega) (fun b hb => by have := (hrow3 b hb).1; omega)
            have hlx : Has (w7.alloc (.cells #[.int .i64 (i : Int)] 3)) _ 27 #[.int .i64 k2, .int .i64 s2, .bool l2, .bool o2, .bool f2] := has_alloc zx _
            have zx3 : Has w9 _ 27 #[.int .i64 k2, .int .i64 s2, .bool l2, .bool o2, .bool f2] := has_grown hlx hgrow3 (fun e => by
              have hq := e.symm
              obtain ⟨q, hq2⟩ := (hrow3 _ hq).2
              have hq3 := hlx
              unfold Has at hq2 hq3; rw [hq2] at hq3; injection hq3 with hq3; injection hq3 with hq3 hq4 hq5; exact absurd hq4 (by decide))
            have own4 : w9.ownsRow (w.heap.size + 2) 3 1 (.slice A3 (oAt ⟨k, s, l, o, f⟩ L (i + 1)).length c3) (oAt ⟨k, s, l, o, f⟩ L (i + 1)).length (intV (oAt ⟨k, s, l, o, f⟩ L (i + 1))) := by rw [HO.out]; simpa [intV] using hown3
            have hl5 : (oAt ⟨k, s, l, o, f⟩ L i).length + 1 = (oAt ⟨k, s, l, o, f⟩ L (i + 1)).length := by rw [HO.out]; simp
            rw [hl5]; have OW4 := Lib.hid own4
            clear za zr zx zb; have za := za3; have zr := zr3; have zx := zx3; have zb := zb3
            clear hown3 hgrow3 hrow3 own4 za3 zr3 zb3 zx3 hlx hl5 hcmp hi0 hz0 hz1 hz2 hol
            have zac0 := has_cell za 0 rfl; have zac1 := has_cell za 1 rfl; have zac2 := has_cell za 2 rfl; have zac3 := has_cell za 3 rfl; have zac4 := has_cell za 4 rfl
            have zaf0 := has_free za 0; have zaf1 := has_free za 1; have zaf2 := has_free za 2; have zaf3 := has_free za 3; have zaf4 := has_free za 4
            have zalt := has_lt za
            have zxc0 := has_cell zx 0 rfl; have zxc1 := has_cell zx 1 rfl; have zxc2 := has_cell zx 2 rfl; have zxc3 := has_cell zx 3 rfl; have zxc4 := has_cell zx 4 rfl
            have zxlt := has_lt zx
            have ZAH := Lib.hid za; clear za
            have ZRH := Lib.hid zr; clear zr
            have ZXH := Lib.hid zx; clear zx
            have ZB := Lib.hid zb; clear zb
            go_wp2_with fail
            clear zac0 zac1 zac2 zac3 zac4 zaf0 zaf1 zaf2 zaf3 zaf4 zalt zxc0 zxc1 zxc2 zxc3 zxc4 zxlt
            have za := ZAH.out; clear ZAH
            have zr := ZRH.out; clear ZRH
            have zx := ZXH.out; clear ZXH
            have zb := ZB.out; clear ZB
            go_roundw
            case rel => exact ⟨i + 1, A3, c3, by omega, by go_num, rfl, own_keep OW4.out (oset5 (only_refl _ _) _ _ _ _ _) (by omega), by rw [HN.out]; exact hset5 za _ _ _ _ _, has_only_d zr (oset5 (only_refl _ _) _ _ _ _ _) (by omega), bset5 (Nat.le_refl _) _ _ _ _ _ zb⟩
            case measure => simp [intOf]; omega
        · have hil : i = L.length := by omega
          subst hil
          have HX := Lib.hid (show doActs ⟨k, s, l, o, f⟩ L = (⟨k1, s1, l1, o1, f1⟩, oAt ⟨k, s, l, o, f⟩ L L.length) by rw [HV.out, HD.out])
          clear HV HD hol
          have zac0 := has_cell za 0 rfl; have zac1 := has_cell za 1 rfl; have zac2 := has_cell za 2 rfl; have zac3 := has_cell za 3 rfl; have zac4 := has_cell za 4 rfl
          have zaf0 := has_free za 0; have zaf1 := has_free za 1; have zaf2 := has_free za 2; have zaf3 := has_free za 3; have zaf4 := has_free za 4
          have zalt := has_lt za
          have zrc0 := has_cell zr 0 rfl; have zrc1 := has_cell zr 1 rfl; have zrc2 := has_cell zr 2 rfl; have zrc3 := has_cell zr 3 rfl; have zrc4 := has_cell zr 4 rfl
          have zrf0 := has_free zr 0; have zrf1 := has_free zr 1; have zrf2 := has_free zr 2; have zrf3 := has_free zr 3; have zrf4 := has_free zr 4
          have zrlt := has_lt zr
          have ZAH := Lib.hid za; clear za
          have ZRH := Lib.hid zr; clear zr
          have ZB := Lib.hid zb; clear zb
          go_wp2_with fail
          refine bodyPost_ret (v := .tuple #[.agg #[.int .i64 k1, .int .i64 s1, .bool l1, .bool o1, .bool f1], .slice A9 (oAt ⟨k, s, l, o, f⟩ L L.length).length c9]) (by simp [results, Try.results16, go_sem, zac0, zac1, zac2, zac3, zac4, zaf0, zaf1, zaf2, zaf3, zaf4, zalt, zrc0, zrc1, zrc2, zrc3, zrc4, zrf0, zrf1, zrf2, zrf3, zrf4, zrlt]) rfl ⟨_, _, doa_ne HX.out rfl, ?_, ?_⟩
          · rw [HX.out]; exact OR.more (or_of_own (own_keep (g := w.heap.size + 1) OW.out (oset5 (only_refl _ _) _ _ _ _ _) (by omega))) (by omega)
          · repeat (first | (with_reducible exact ZB.out) | (with_reducible refine Below.alloc ?_ (by have h9 := ZB.out.size; simp <;> omega) _) | (with_reducible refine Below.drew ?_) | (with_reducible refine Below.setCell ?_ (by first | exact Nat.le_refl _ | exact Nat.le_add_right _ _ | (simp <;> omega)) _))
end Go.Proofs.Ytaeonangkbhmgaa
