
/- Chapter 9: copies and comparisons of sites; networks: what they read as, sizes, copies, comparisons (gen_ntc.py). -/
import Derived.Test.YtjpkpfmpjgeeiaaGreatQ16
import Derived.Test.YtjpkpfmpjgeeiaaGreatQ18
import Derived.Test.YtjpkpfmpjgeeiaaGreatQ19
import Derived.Test.YtjpkpfmpjgeeiaaGreatQ21
import Derived.Deep.Cut
namespace Go.Proofs.YtjpkpfmpjgeeiaaGreat
open Go.RowKit
set_option linter.unusedVariables false
set_option maxRecDepth 100000
/-- a slice of sites in a range of blocks, with all rows of the sites -/
def SitsAt (w : World) (lo hi : Nat) (A : Option Addr) (l : List Sit) : Prop := OI w lo hi 88 A (sitsV l) ∧ ∃ f, SitSep w lo hi l f
theorem SitsAt.call {w w' : World} {lo hi : Nat} {A : Option Addr} {l : List Sit} (h : SitsAt w lo hi A l) (hb : Below w.heap.size w w') : SitsAt w' lo hi A l := ⟨h.1.call hb, let ⟨f, hf⟩ := h.2; ⟨f, hf.call hb⟩⟩
theorem SitsAt.setlow {w : World} {lo hi : Nat} {A : Option Addr} {l : List Sit} (h : SitsAt w lo hi A l) {p : Addr} (hp : p.block < lo) (v : Value) : SitsAt (w.setCell p v) lo hi A l := ⟨h.1.setlow hp v, let ⟨f, hf⟩ := h.2; ⟨f, hf.setlow hp v⟩⟩
theorem SitsAt.wider {w : World} {lo hi lo' hi' : Nat} {A : Option Addr} {l : List Sit} (h : SitsAt w lo hi A l) (h1 : lo' ≤ lo) (h2 : hi ≤ hi') : SitsAt w lo' hi' A l := ⟨h.1.wider h1 h2, let ⟨f, hf⟩ := h.2; ⟨f, hf.wider h1 h2⟩⟩
theorem sitsV_nil {l : List Sit} (h : sitsV l = []) : l = [] := by
  have := congrArg List.length h
  rw [sitsV_len] at this
  exact List.eq_nil_of_length_eq_zero (by simp only [List.length_nil] at this; omega)
theorem OI.sil {w : World} {lo hi : Nat} {e : TypeId} {A : Option Addr} {l : List Sit} (h : OI w lo hi e A (sitsV l)) : SIL w w.heap.size A l := by
  rcases h with h | ⟨g, cur, rfl, _, _, hh, hc⟩
  · exact .inl (sitsV_nil h)
  · refine .inr ⟨g, 0, rfl, has_lt hh, fun k x hx => ?_⟩
    have := sitsV_at hx
    rw [Nat.zero_add]
    exact ⟨has_cell hh _ (hc _ _ this.1), has_cell hh _ (hc _ _ this.2.1), has_cell hh _ (hc _ _ this.2.2.1), has_cell hh _ (hc _ _ this.2.2.2.1), has_cell hh _ (hc _ _ this.2.2.2.2.1), has_cell hh _ (hc _ _ this.2.2.2.2.2.1), has_cell hh _ (hc _ _ this.2.2.2.2.2.2.1), has_cell hh _ (hc _ _ this.2.2.2.2.2.2.2.1), has_cell hh _ (hc _ _ this.2.2.2.2.2.2.2.2.1), has_cell hh _ (hc _ _ this.2.2.2.2.2.2.2.2.2.1), has_cell hh _ (hc _ _ this.2.2.2.2.2.2.2.2.2.2)⟩
theorem SitsAt.v {w : World} {lo hi : Nat} {A : Option Addr} {l : List Sit} (h : SitsAt w lo hi A l) (hs : totS l ≤ 1048576) : SIL w w.heap.size A l ∧ ∀ x ∈ l, SitV w w.heap.size x := ⟨h.1.sil, let ⟨_, hf⟩ := h.2; hf.v fun x hx => by have := totS_mem hx; omega⟩
theorem len_contS {l l' : List Sit} (h : l'.map contS = l.map contS) : l'.length = l.length := by have := congrArg List.length h; simpa using this
theorem totS_cont : ∀ {l l' : List Sit}, l'.map contS = l.map contS → totS l' = totS l
  | [], l', h => by have : l' = [] := by simpa using h
                    subst this; rfl
  | x :: r, [], h => by simp at h
  | x :: r, x' :: r', h => by
    simp only [List.map_cons, List.cons.injEq] at h
    have h1 := szSit_cont h.1
    have h2 := totS_cont h.2
    unfold totS at h2 ⊢
    simp only [List.map_cons, List.sum_cons]; omega
theorem makesit_run (m : Nat) (hm : m ≤ 1048576) : ∀ W : World, (Instr.makeSlice 33 (.int .i64 (m : Int)) (.int .i64 (m : Int))).run Tryz.prog W = .ok (.slice (some ⟨W.heap.size, 0, none⟩) m m) (W.alloc (.cells (madeCells #[.slice none 0 0, .slice none 0 0, .slice none 0 0, .int .i64 0, .int .i64 0, .bool false, .bool false, .bool false, .int .i64 0, .int .i64 0, .slice none 0 0] (m * 11)) 88)) := by
  intro W
  obtain ⟨i, hi, hz0, hz1, hz2⟩ := info_parts sitInfo
  have := run_make (P := Tryz.prog) W 33 88 i _ Tryz.underlying33 hi hz0 .i64 .i64 (m : Int) (m : Int) (by omega) (by omega) (by rw [hz2]; omega) (by omega)
  simpa [hz1, Value.cells] using this

set_option maxHeartbeats 4000000 in
theorem toSiteS_any (w : World) (B : Nat) (A : Option Addr) (c : Nat) (l : List Sit) (hl : l.length ≤ 1048576) (hsz : totS l ≤ 1048576) (hB : B ≤ w.heap.size) (hS : SIL w B A l) (hV : ∀ x ∈ l, SitV w B x) :
    Calls Tryz.prog 19 #[.slice A l.length c] w fun e w' => ∃ (A' : Option Addr) (l' : List Sit), e = .returned (.slice A' l'.length l.length) ∧ l'.map contS = l.map contS ∧ SitsAt w' w.heap.size w'.heap.size A' l' ∧ Below w.heap.size w w' := by
  have hmk := makesit_run l.length hl
  have HSZ := Lib.hid hsz; clear hsz
  have HS := Lib.hid hS; have HV := Lib.hid hV; clear hS hV
  go_enter Tryz.func19, Tryz.ntmps19
  go_wp2
  go_loopw [4] (fun i wr => ∃ (k : Nat) (cs : Array Value) (l' : List Sit), k ≤ l.length ∧ i = .int .i64 k ∧ l'.length = k ∧ l'.map contS = (l.take k).map contS ∧ CopiedS wr w.heap.size cs l' l.length ∧ (∃ f, SitSep wr (w.heap.size + 1) wr.heap.size l' f) ∧ Below w.heap.size w wr) (fun i _ => l.length - (intOf i).toNat)
  case atStart => exact ⟨0, _, [], Nat.zero_le _, rfl, rfl, rfl, ⟨has_new _ _ _, by simp [size_madeCells], fun j x hj => by simp at hj⟩, ⟨fun _ => (0, 0), ⟨fun k x h => by simp at h, fun j k _ hk => by simp at hk⟩⟩, balloc _ _⟩
  case round =>
    obtain ⟨k, cs, l', hk, rfl, hlk, hct, hcp, hro, hb⟩ := hrel
    have HC := Lib.hid hcp; have HCT := Lib.hid hct; have HRO := Lib.hid hro; clear hcp hct hro
    clear hmk
    have hsz := hb.size
    by_cases hlt : k < l.length
    · obtain ⟨b, off, x, rfl, hbB, hx, hc0, hc1, hc2, hc3, hc4, hc5, hc6, hc7, hc8, hc9, hc10⟩ := (HS.out.later hB hb).at_ hlt
      have hv := (HV.out x (List.mem_of_getElem? hx)).later hB hb
      have hs : szSit x ≤ 1048576 := by have h1 := HSZ.out; have h2 := totS_mem (List.mem_of_getElem? hx); omega
      have HX := Lib.hid hx; have HVX := Lib.hid hv; have HSX := Lib.hid hs; clear hx hv hs
      have HLK := Lib.hid hlk; clear hlk
      have hBr : B ≤ wr.heap.size := by omega
      go_wp2_with fail
      clear hc0 hc1 hc2 hc3 hc4 hc5 hc6 hc7 hc8 hc9 hc10
      refine (toSite_any wr B x HSX.out hBr HVX.out).mono ?_
      rintro e w1 ⟨y, rfl, hyc, hya, hb1⟩
      have hz1 := hb1.size
      have hC1 : CopiedS w1 w.heap.size cs l' l.length := ⟨has_call HC.out.heap hb1, HC.out.size, HC.out.got⟩
      have hgl : w.heap.size < wr.heap.size := has_lt HC.out.heap
      have hst := hC1.step (by rw [HLK.out]; exact hlt) y
      rw [HLK.out] at hst
      obtain ⟨f, hf⟩ := HRO.out
      have hsep := (hf.call hb1).snoc (x := y) (a := wr.heap.size) (b := w1.heap.size) (Nat.le_refl _) hz1 (by omega) hya
      have hsep2 := (((((((((((hsep.setlow (p := ⟨w.heap.size, k * 11, none⟩) (Nat.lt_succ_self _) (.slice y.A1 y.o.length y.c1)).setlow (p := ⟨w.heap.size, k * 11 + 1, none⟩) (Nat.lt_succ_self _) (.slice y.A2 y.q.length y.c2)).setlow (p := ⟨w.heap.size, k * 11 + 2, none⟩) (Nat.lt_succ_self _) (.slice y.AB y.bk.length y.cB)).setlow (p := ⟨w.heap.size, k * 11 + 3, none⟩) (Nat.lt_succ_self _) (.int .i64 y.dk)).setlow (p := ⟨w.heap.size, k * 11 + 4, none⟩) (Nat.lt_succ_self _) (.int .i64 y.ds)).setlow (p := ⟨w.heap.size, k * 11 + 5, none⟩) (Nat.lt_succ_self _) (.bool y.dl)).setlow (p := ⟨w.heap.size, k * 11 + 6, none⟩) (Nat.lt_succ_self _) (.bool y.dp)).setlow (p := ⟨w.heap.size, k * 11 + 7, none⟩) (Nat.lt_succ_self _) (.bool y.df)).setlow (p := ⟨w.heap.size, k * 11 + 8, none⟩) (Nat.lt_succ_self _) (.int .i64 y.par)).setlow (p := ⟨w.heap.size, k * 11 + 9, none⟩) (Nat.lt_succ_self _) (.int .i64 y.who)).setlow (p := ⟨w.heap.size, k * 11 + 10, none⟩) (Nat.lt_succ_self _) (.slice y.AJ y.jr.length y.cJ))
      obtain ⟨u0, hu0⟩ := hC1.cellAt (j := k * 11) (by omega)
      obtain ⟨u1, hu1⟩ := hC1.cellAt (j := k * 11 + 1) (by omega)
      obtain ⟨u2, hu2⟩ := hC1.cellAt (j := k * 11 + 2) (by omega)
      obtain ⟨u3, hu3⟩ := hC1.cellAt (j := k * 11 + 3) (by omega)
      obtain ⟨u4, hu4⟩ := hC1.cellAt (j := k * 11 + 4) (by omega)
      obtain ⟨u5, hu5⟩ := hC1.cellAt (j := k * 11 + 5) (by omega)
      obtain ⟨u6, hu6⟩ := hC1.cellAt (j := k * 11 + 6) (by omega)
      obtain ⟨u7, hu7⟩ := hC1.cellAt (j := k * 11 + 7) (by omega)
      obtain ⟨u8, hu8⟩ := hC1.cellAt (j := k * 11 + 8) (by omega)
      obtain ⟨u9, hu9⟩ := hC1.cellAt (j := k * 11 + 9) (by omega)
      obtain ⟨u10, hu10⟩ := hC1.cellAt (j := k * 11 + 10) (by omega)
      have hf0 := has_free hC1.heap (k * 11)
      have hf1 := has_free hC1.heap (k * 11 + 1)
      have hf2 := has_free hC1.heap (k * 11 + 2)
      have hf3 := has_free hC1.heap (k * 11 + 3)
      have hf4 := has_free hC1.heap (k * 11 + 4)
      have hf5 := has_free hC1.heap (k * 11 + 5)
      have hf6 := has_free hC1.heap (k * 11 + 6)
      have hf7 := has_free hC1.heap (k * 11 + 7)
      have hf8 := has_free hC1.heap (k * 11 + 8)
      have hf9 := has_free hC1.heap (k * 11 + 9)
      have hf10 := has_free hC1.heap (k * 11 + 10)
      have HST := Lib.hid hst; have HR1 := Lib.hid hsep2; have HYC := Lib.hid hyc; clear hst hsep hsep2 hC1 hya hyc hf
      go_wp2
      go_roundw
      case rel => exact ⟨k + 1, _, l' ++ [y], by omega, by go_num, by simp [HLK.out], contS_snoc HCT.out HX.out HYC.out, HST.out, ⟨_, HR1.out.wider (Nat.le_refl _) (by simp)⟩, ((((((((((((hb.trans (hb1.mono hsz)).setCell (Nat.le_refl _) _).setCell (Nat.le_refl _) _).setCell (Nat.le_refl _) _).setCell (Nat.le_refl _) _).setCell (Nat.le_refl _) _).setCell (Nat.le_refl _) _).setCell (Nat.le_refl _) _).setCell (Nat.le_refl _) _).setCell (Nat.le_refl _) _).setCell (Nat.le_refl _) _).setCell (Nat.le_refl _) _)⟩
      case measure => simp [intOf]; omega
    · go_wp2
      go_ret
      have hkl : k = l.length := by omega
      subst hkl
      have hct := HCT.out
      rw [List.take_length] at hct
      obtain ⟨f, hf⟩ := HRO.out
      exact ⟨some ⟨w.heap.size, 0, none⟩, l', by simp [hlk], hct, ⟨HC.out.oi (Nat.le_refl _) (has_lt HC.out.heap), f, hf.wider (Nat.le_succ _) (Nat.le_refl _)⟩, hb⟩

set_option maxHeartbeats 2000000 in
theorem eqSite_any (w : World) (B B' : Nat) (x y : Sit) (hc : contS y = contS x) (hz : szSit x ≤ 1048576) (hB : B ≤ w.heap.size) (hB' : B' ≤ w.heap.size) (hV : SitV w B x) (hV' : SitV w B' y) :
    Calls Tryz.prog 50 #[.agg #[.slice x.A1 x.o.length x.c1, .slice x.A2 x.q.length x.c2, .slice x.AB x.bk.length x.cB, .int .i64 x.dk, .int .i64 x.ds, .bool x.dl, .bool x.dp, .bool x.df, .int .i64 x.par, .int .i64 x.who, .slice x.AJ x.jr.length x.cJ], .agg #[.slice y.A1 y.o.length y.c1, .slice y.A2 y.q.length y.c2, .slice y.AB y.bk.length y.cB, .int .i64 y.dk, .int .i64 y.ds, .bool y.dl, .bool y.dp, .bool y.df, .int .i64 y.par, .int .i64 y.who, .slice y.AJ y.jr.length y.cJ]] w fun e w' => e = .returned (.bool true) ∧ Below w.heap.size w w' := by
  have hz0 : x.o.length ≤ 1048576 ∧ x.q.length ≤ 1048576 ∧ x.bk.length ≤ 1048576 ∧ x.jr.length ≤ 1048576 ∧ totK x.bk ≤ 1048576 := by unfold szSit at hz; omega
  obtain ⟨A1, o, c1, A2, q, c2, AB, bk, cB, dk, ds, dl, dp, df, par, who, AJ, jr, cJ⟩ := x
  obtain ⟨A1', o', c1', A2', q', c2', AB', bk', cB', dk', ds', dl', dp', df', par', who', AJ', jr', cJ'⟩ := y
  simp only [contS, Prod.mk.injEq] at hc
  obtain ⟨rfl, rfl, hct, ⟨rfl, rfl, rfl, rfl, rfl⟩, rfl, rfl, rfl⟩ := hc
  dsimp only at hz0 ⊢
  have hlb := len_cont hct
  obtain ⟨z1, z2, z3, z4, z5⟩ := hz0
  have HV := Lib.hid hV; have HV' := Lib.hid hV'; have HCT := Lib.hid hct; have HLB := Lib.hid hlb; clear hV hV' hz hct
  rw [hlb]; clear hlb
  have e1 : (par' != par') = false := by simp
  have e2 : (who' != who') = false := by simp
  have x1 : o'.length ≤ maxLen := by unfold maxLen; omega
  have x2 : q'.length ≤ maxLen := by unfold maxLen; omega
  have x3 : bk.length ≤ maxLen := by unfold maxLen; omega
  have x4 : jr'.length ≤ maxLen := by unfold maxLen; omega
  go_enter Tryz.func50, Tryz.ntmps50
  go_wp2_with fail
  generalize hX : ((w.alloc (.cells #[.slice A1 o'.length c1, .slice A2 q'.length c2, .slice AB bk.length cB, .int .i64 dk', .int .i64 ds', .bool dl', .bool dp', .bool df', .int .i64 par', .int .i64 who', .slice AJ jr'.length cJ] 88)).alloc (.cells #[.slice A1' o'.length c1', .slice A2' q'.length c2', .slice AB' bk.length cB', .int .i64 dk', .int .i64 ds', .bool dl', .bool dp', .bool df', .int .i64 par', .int .i64 who', .slice AJ' jr'.length cJ'] 88)) = w1
  have b1 : Below w.heap.size w w1 := by rw [← hX]; exact bthen (balloc _ _) (balloc _ _)
  have m0 : Has w1 w.heap.size 88 #[.slice A1 o'.length c1, .slice A2 q'.length c2, .slice AB bk.length cB, .int .i64 dk', .int .i64 ds', .bool dl', .bool dp', .bool df', .int .i64 par', .int .i64 who', .slice AJ jr'.length cJ] := by rw [← hX]; exact has_alloc (has_new _ _ _) _
  have m1 : Has w1 (w.heap.size + 1) 88 #[.slice A1' o'.length c1', .slice A2' q'.length c2', .slice AB' bk.length cB', .int .i64 dk', .int .i64 ds', .bool dl', .bool dp', .bool df', .int .i64 par', .int .i64 who', .slice AJ' jr'.length cJ'] := by rw [← hX]; have := has_new (w.alloc (.cells #[.slice A1 o'.length c1, .slice A2 q'.length c2, .slice AB bk.length cB, .int .i64 dk', .int .i64 ds', .bool dl', .bool dp', .bool df', .int .i64 par', .int .i64 who', .slice AJ jr'.length cJ] 88)) 88 #[.slice A1' o'.length c1', .slice A2' q'.length c2', .slice AB' bk.length cB', .int .i64 dk', .int .i64 ds', .bool dl', .bool dp', .bool df', .int .i64 par', .int .i64 who', .slice AJ' jr'.length cJ']; simpa using this
  clear hX
  have M0 := Lib.hid m0; have M1 := Lib.hid m1; have BB := Lib.hid b1; have hs1 := b1.size; clear m0 m1 b1
  refine (eqWeek_any w1 B B' A1 A2 A1' A2' c1 c2 c1' c2' o' q' x1 x2 (by omega) (by omega) (HV.out.later hB BB.out).so (HV.out.later hB BB.out).sq (HV'.out.later hB' BB.out).so (HV'.out.later hB' BB.out).sq).mono ?_
  rintro e w2 ⟨rfl, hb⟩
  have kk := has_call M0.out hb; clear M0; have M0 := Lib.hid kk; clear kk
  have kk := has_call M1.out hb; clear M1; have M1 := Lib.hid kk; clear kk
  have kk := bthen BB.out hb; clear BB; have BB := Lib.hid kk; clear kk
  have hsw2 := hb.size; clear hb
  have a02 := has_cell M0.out 2 rfl
  have l0 := has_lt M0.out
  have a12 := has_cell M1.out 2 rfl
  have l1 := has_lt M1.out
  go_wp2_with fail
  clear a02 a12 l0 l1
  refine (eqColumnS_any w2 B B' AB AB' cB cB' bk.length bk bk' x3 rfl HCT.out (by omega) (by omega) (HV.out.later hB BB.out).kb (HV.out.later hB BB.out).cv (HV'.out.later hB' BB.out).kb (HV'.out.later hB' BB.out).cv).mono ?_
  rintro e w3 ⟨rfl, hb⟩
  have kk := has_call M0.out hb; clear M0; have M0 := Lib.hid kk; clear kk
  have kk := has_call M1.out hb; clear M1; have M1 := Lib.hid kk; clear kk
  have kk := bthen BB.out hb; clear BB; have BB := Lib.hid kk; clear kk
  have hsw3 := hb.size; clear hb
  have a03 := has_cell M0.out 3 rfl
  have a04 := has_cell M0.out 4 rfl
  have a05 := has_cell M0.out 5 rfl
  have a06 := has_cell M0.out 6 rfl
  have a07 := has_cell M0.out 7 rfl
  have l0 := has_lt M0.out
  have a13 := has_cell M1.out 3 rfl
  have a14 := has_cell M1.out 4 rfl
  have a15 := has_cell M1.out 5 rfl
  have a16 := has_cell M1.out 6 rfl
  have a17 := has_cell M1.out 7 rfl
  have l1 := has_lt M1.out
  go_wp2_with fail
  clear a03 a04 a05 a06 a07 a13 a14 a15 a16 a17 l0 l1
  refine (eqDoor_any w3 dk' ds' dl' dp' df').mono ?_
  rintro e w4 ⟨rfl, hb⟩
  have kk := has_call M0.out hb; clear M0; have M0 := Lib.hid kk; clear kk
  have kk := has_call M1.out hb; clear M1; have M1 := Lib.hid kk; clear kk
  have kk := bthen BB.out hb; clear BB; have BB := Lib.hid kk; clear kk
  have hsw4 := hb.size; clear hb
  have a08 := has_cell M0.out 8 rfl
  have a09 := has_cell M0.out 9 rfl
  have a010 := has_cell M0.out 10 rfl
  have l0 := has_lt M0.out
  have a18 := has_cell M1.out 8 rfl
  have a19 := has_cell M1.out 9 rfl
  have a110 := has_cell M1.out 10 rfl
  have l1 := has_lt M1.out
  go_wp2_with fail
  clear a08 a09 a010 a18 a19 a110 l0 l1
  refine (eqEventS_any w4 B B' AJ AJ' cJ cJ' jr' x4 (by omega) (by omega) (HV.out.later hB BB.out).ej (HV'.out.later hB' BB.out).ej).mono ?_
  rintro e w5 ⟨rfl, hb⟩
  go_wp2_with fail
  go_ret
  exact ⟨rfl, bthen BB.out hb⟩
set_option maxHeartbeats 2000000 in
theorem eqSiteS_any (w : World) (B B' : Nat) (A A' : Option Addr) (c c' n : Nat) (l l' : List Sit) (hl : l.length ≤ 1048576) (hn : n = l.length) (hsz : totS l ≤ 1048576) (hc : l'.map contS = l.map contS) (hB : B ≤ w.heap.size) (hB' : B' ≤ w.heap.size) (hS : SIL w B A l) (hV : ∀ x ∈ l, SitV w B x) (hS' : SIL w B' A' l') (hV' : ∀ x ∈ l', SitV w B' x) :
    Calls Tryz.prog 25 #[.slice A n c, .slice A' n c'] w fun e w' => e = .returned (.bool true) ∧ Below w.heap.size w w' := by
  subst hn
  have hll := len_contS hc
  have HS := Lib.hid hS; have HV := Lib.hid hV; have HS' := Lib.hid hS'; have HV' := Lib.hid hV'; have HC := Lib.hid hc; have HLL := Lib.hid hll; have HSZ := Lib.hid hsz; clear hS hV hS' hV' hc hll hsz
  have e0 : ((l.length : Int) != (l.length : Int)) = false := by simp
  go_enter Tryz.func25, Tryz.ntmps25
  go_wp2
  clear e0
  go_loopw [5] (fun i wr => ∃ k : Nat, k ≤ l.length ∧ i = .int .i64 k ∧ Below w.heap.size w wr) (fun i _ => l.length - (intOf i).toNat)
  case atStart => exact ⟨0, Nat.zero_le _, rfl, Below.refl _ _⟩
  case round =>
    obtain ⟨k, hk, rfl, hb⟩ := hrel
    by_cases hlt : k < l.length
    · have hsz := hb.size
      obtain ⟨b, off, x, rfl, hbB, hx, hc0, hc1, hc2, hc3, hc4, hc5, hc6, hc7, hc8, hc9, hc10⟩ := (HS.out.below (hb.mono hB)).at_ hlt
      obtain ⟨b', off', y, rfl, hbB', hy, hd0, hd1, hd2, hd3, hd4, hd5, hd6, hd7, hd8, hd9, hd10⟩ := (HS'.out.below (hb.mono hB')).at_ (k := k) (by rw [HLL.out]; exact hlt)
      have hv := (HV.out x (List.mem_of_getElem? hx)).later hB hb
      have hv' := (HV'.out y (List.mem_of_getElem? hy)).later hB' hb
      have hxy : contS y = contS x := by
        have h1 : (l'.map contS)[k]? = some (contS y) := by rw [List.getElem?_map, hy]; rfl
        have h2 : (l.map contS)[k]? = some (contS x) := by rw [List.getElem?_map, hx]; rfl
        rw [HC.out, h2] at h1; injection h1 with h1; exact h1.symm
      have hzx : szSit x ≤ 1048576 := by have h1 := HSZ.out; have h2 := totS_mem (List.mem_of_getElem? hx); omega
      have hv1 : SitV wr.drew B x := hv.later (by omega) (Below.refl _ _).drew
      have hv2 : SitV wr.drew B' y := hv'.later (by omega) (Below.refl _ _).drew
      have HSC := Lib.hid (eqSite_any wr.drew B B' x y hxy hzx (by show B ≤ wr.heap.size; omega) (by show B' ≤ wr.heap.size; omega) hv1 hv2); clear hx hy hv hv' hxy hzx hv1 hv2
      have hbw : b < wr.heap.size := by omega
      have hbw' : b' < wr.heap.size := by omega
      have hkk0 : (0 : Int) ≤ (k : Int) := by omega
      have hkk1 : (k : Int) < (l.length : Int) := by omega
      go_upto_region 6 with fail
      go_region_with (go_at_call 50; refine (HSC.out).mono ?_; rintro e w1 ⟨rfl, hb1⟩)
      all_goals (go_wp2_with fail)
      all_goals go_roundw
      all_goals first | exact ⟨k + 1, by omega, by go_num, (hb.drew).trans (hb1.mono hsz)⟩ | (simp [intOf]; omega)
    · go_wp2
      go_ret
      exact ⟨rfl, hb⟩

structure Net where
  tm : Tm
  room : Int
  secret : Int
  now : Int
  AS : Option Addr
  st : List Sit
  cS : Nat
  AP : Option Addr
  pc : List Pc
  cP : Nat
  AG : Option Addr
  gr : List Gr
  cG : Nat
  AJ : Option Addr
  jr : List Ev
  cJ : Nat
/-- what a network holds, wherever its rows lie -/
abbrev NCont := Tm × (Int × Int × Int) × List SCont × List Pc × List Gr × List Ev
def contN (x : Net) : NCont := (x.tm, (x.room, x.secret, x.now), x.st.map contS, x.pc, x.gr, x.jr)
structure NetV (w : World) (B : Nat) (x : Net) : Prop where
  si : SIL w B x.AS x.st
  sv : ∀ y ∈ x.st, SitV w B y
  pl : pcL w B x.AP x.pc
  gl : grL w B x.AG x.gr
  ej : evL w B x.AJ x.jr
  l1 : x.st.length ≤ maxLen
  l2 : x.pc.length ≤ maxLen
  l3 : x.gr.length ≤ maxLen
  l4 : x.jr.length ≤ maxLen
theorem NetV.later {w w' : World} {B : Nat} {x : Net} (h : NetV w B x) (hB : B ≤ w.heap.size) (hb : Below w.heap.size w w') : NetV w' B x :=
  ⟨h.si.later hB hb, fun y hy => (h.sv y hy).later hB hb, h.pl.later hB hb, h.gl.later hB hb, h.ej.later hB hb, h.l1, h.l2, h.l3, h.l4⟩
theorem NetV.more {w : World} {B B' : Nat} {x : Net} (h : NetV w B x) (hB : B ≤ B') : NetV w B' x :=
  ⟨h.si.more hB, fun y hy => (h.sv y hy).more hB, h.pl.more hB, h.gl.more hB, h.ej.more hB, h.l1, h.l2, h.l3, h.l4⟩
def szNet (x : Net) : Nat := (x.st.length + totS x.st) + x.pc.length + x.gr.length + x.jr.length
def NetAt (w : World) (lo hi : Nat) (x : Net) : Prop := ∃ m1 m2 m3, lo ≤ m1 ∧ m1 ≤ m2 ∧ m2 ≤ m3 ∧ m3 ≤ hi ∧ SitsAt w lo m1 x.AS x.st ∧ OI w m1 m2 55 x.AP (pcV x.pc) ∧ OI w m2 m3 95 x.AG (grV x.gr) ∧ OI w m3 hi 99 x.AJ (evV x.jr)
theorem NetAt.call {w w' : World} {lo hi : Nat} {x : Net} (h : NetAt w lo hi x) (hb : Below w.heap.size w w') : NetAt w' lo hi x := by
  obtain ⟨m1, m2, m3, h1, h2, h3, h4, a, b, c, d⟩ := h
  exact ⟨m1, m2, m3, h1, h2, h3, h4, a.call hb, b.call hb, c.call hb, d.call hb⟩
theorem NetAt.v {w : World} {lo hi : Nat} {x : Net} (h : NetAt w lo hi x) (hs : szNet x ≤ 1048576) : NetV w w.heap.size x := by
  obtain ⟨m1, m2, m3, h1, h2, h3, h4, a, b, c, d⟩ := h
  unfold szNet at hs
  obtain ⟨v1, v2⟩ := a.v (by omega)
  exact ⟨v1, v2, b.pc, c.gr, d.ev, by unfold maxLen; omega, by unfold maxLen; omega, by unfold maxLen; omega, by unfold maxLen; omega⟩
theorem szNet_cont {x y : Net} (h : contN y = contN x) : szNet y = szNet x := by
  unfold contN at h
  simp only [Prod.mk.injEq] at h
  obtain ⟨_, _, h3, h4, h5, h6⟩ := h
  have a := len_contS h3; have b := totS_cont h3
  unfold szNet; rw [a, b, h4, h5, h6]
set_option maxHeartbeats 2000000 in
theorem szNetwork_any (w : World) (B : Nat) (x : Net) (hB : B ≤ w.heap.size) (hV : NetV w B x) :
    Calls Tryz.prog 5 #[.agg #[.int .i64 x.tm.keep, .int .i64 x.tm.free, .int .i64 x.tm.step, .int .i64 x.tm.rate, .int .i64 x.tm.cap, .int .i64 x.tm.longer, .int .i64 x.tm.price, .int .i64 x.tm.most, .int .i64 x.room, .int .i64 x.secret, .int .i64 x.now, .slice x.AS x.st.length x.cS, .slice x.AP x.pc.length x.cP, .slice x.AG x.gr.length x.cG, .slice x.AJ x.jr.length x.cJ], .int .i64 1048576] w fun e w' => ∃ r, e = .returned (.int .i64 r) ∧ (r = -1 ∨ (0 ≤ r ∧ szNet x ≤ 1048576)) ∧ Below w.heap.size w w' := by
  have HV := Lib.hid hV; clear hV
  have hi0 : ∀ (l : Int) (a : Nat), 0 ≤ l → szI l a = -1 ∨ (0 ≤ szI l a ∧ szI l a = l - a) := fun l a hl => by
    unfold szI
    by_cases h1 : l < a
    · left; rw [if_pos h1]
    · right; rw [if_neg h1]; omega
  have HI0 := Lib.hid hi0; clear hi0
  go_enter Tryz.func5, Tryz.ntmps5
  go_wp2_with fail
  generalize hX : w.alloc (.cells #[.int .i64 x.tm.keep, .int .i64 x.tm.free, .int .i64 x.tm.step, .int .i64 x.tm.rate, .int .i64 x.tm.cap, .int .i64 x.tm.longer, .int .i64 x.tm.price, .int .i64 x.tm.most, .int .i64 x.room, .int .i64 x.secret, .int .i64 x.now, .slice x.AS x.st.length x.cS, .slice x.AP x.pc.length x.cP, .slice x.AG x.gr.length x.cG, .slice x.AJ x.jr.length x.cJ] 29) = w1
  have b1 : Below w.heap.size w w1 := by rw [← hX]; exact balloc _ _
  have m0 : Has w1 w.heap.size 29 #[.int .i64 x.tm.keep, .int .i64 x.tm.free, .int .i64 x.tm.step, .int .i64 x.tm.rate, .int .i64 x.tm.cap, .int .i64 x.tm.longer, .int .i64 x.tm.price, .int .i64 x.tm.most, .int .i64 x.room, .int .i64 x.secret, .int .i64 x.now, .slice x.AS x.st.length x.cS, .slice x.AP x.pc.length x.cP, .slice x.AG x.gr.length x.cG, .slice x.AJ x.jr.length x.cJ] := by rw [← hX]; exact has_new _ _ _
  clear hX
  have hs1 := b1.size
  have M0 := Lib.hid m0; have BB := Lib.hid b1; clear m0 b1
  refine (szSiteS_any w1 B x.AS x.cS x.st 1048576 HV.out.l1 (by omega) (by omega) (by omega) ((HV.out.later hB BB.out).si) ((HV.out.later hB BB.out).sv)).mono ?_
  rintro e w2 ⟨r, rfl, hr, hb⟩
  have m0 := has_call M0.out hb; have b9 := bthen BB.out hb; have hs2 := hb.size; clear hb M0 BB; have M0 := Lib.hid m0; have BB := Lib.hid b9; clear m0 b9
  rcases hr with rfl | ⟨hr0, hre⟩
  · go_wp2_with fail
    go_ret
    exact ⟨-1, rfl, .inl rfl, BB.out⟩
  have HR1 := Lib.hid hre; have hrl : r ≤ 1048576 := by omega
  clear hre
  have a0 := has_cell M0.out 12 rfl; have l0 := has_lt M0.out
  go_wp2_with fail
  clear a0 l0
  refine (szParcel_any w2 x.AP x.pc.length x.cP r HV.out.l2 hr0 hrl).mono ?_
  rintro e w9 ⟨rfl, hw9⟩
  rw [hw9]; clear hw9 w9
  have hr := HI0.out r x.pc.length hr0
  obtain ⟨r2, hq⟩ : ∃ z, szI r x.pc.length = z := ⟨_, rfl⟩
  rw [hq] at hr ⊢
  clear hq
  clear hr0 hrl
  rcases hr with rfl | ⟨hr0, hre⟩
  · go_wp2_with fail
    go_ret
    exact ⟨-1, rfl, .inl rfl, BB.out⟩
  have HR2 := Lib.hid hre
  have hrl : r2 ≤ 1048576 := by have h1 := HR1.out; have h2 := HR2.out; omega
  clear hre
  have a0 := has_cell M0.out 13 rfl; have l0 := has_lt M0.out
  go_wp2_with fail
  clear a0 l0
  refine (szGrant_any w2 x.AG x.gr.length x.cG r2 HV.out.l3 hr0 hrl).mono ?_
  rintro e w9 ⟨rfl, hw9⟩
  rw [hw9]; clear hw9 w9
  have hr := HI0.out r2 x.gr.length hr0
  obtain ⟨r3, hq⟩ : ∃ z, szI r2 x.gr.length = z := ⟨_, rfl⟩
  rw [hq] at hr ⊢
  clear hq
  clear hr0 hrl
  rcases hr with rfl | ⟨hr0, hre⟩
  · go_wp2_with fail
    go_ret
    exact ⟨-1, rfl, .inl rfl, BB.out⟩
  have HR3 := Lib.hid hre
  have hrl : r3 ≤ 1048576 := by have h1 := HR1.out; have h2 := HR2.out; have h3 := HR3.out; omega
  clear hre
  have a0 := has_cell M0.out 14 rfl; have l0 := has_lt M0.out
  go_wp2_with fail
  clear a0 l0
  refine (szEvent_any w2 x.AJ x.jr.length x.cJ r3 HV.out.l4 hr0 hrl).mono ?_
  rintro e w9 ⟨rfl, hw9⟩
  rw [hw9]; clear hw9 w9
  have hr := HI0.out r3 x.jr.length hr0
  obtain ⟨r4, hq⟩ : ∃ z, szI r3 x.jr.length = z := ⟨_, rfl⟩
  rw [hq] at hr ⊢
  clear hq
  clear hr0 hrl
  rcases hr with rfl | ⟨hr0, hre⟩
  · go_wp2_with fail
    go_ret
    exact ⟨-1, rfl, .inl rfl, BB.out⟩
  have HR4 := Lib.hid hre
  have hrl : r4 ≤ 1048576 := by have h1 := HR1.out; have h2 := HR2.out; have h3 := HR3.out; have h4 := HR4.out; omega
  clear hre
  go_wp2_with fail
  go_ret
  refine ⟨r4, rfl, .inr ⟨hr0, ?_⟩, BB.out⟩
  have h1 := HR1.out; have h2 := HR2.out; have h3 := HR3.out; have h4 := HR4.out
  unfold szNet; push_cast at h1; omega
set_option maxHeartbeats 4000000 in
theorem toNetwork_any (w : World) (B : Nat) (x : Net) (hz : szNet x ≤ 1048576) (hB : B ≤ w.heap.size) (hV : NetV w B x) :
    Calls Tryz.prog 7 #[.agg #[.int .i64 x.tm.keep, .int .i64 x.tm.free, .int .i64 x.tm.step, .int .i64 x.tm.rate, .int .i64 x.tm.cap, .int .i64 x.tm.longer, .int .i64 x.tm.price, .int .i64 x.tm.most, .int .i64 x.room, .int .i64 x.secret, .int .i64 x.now, .slice x.AS x.st.length x.cS, .slice x.AP x.pc.length x.cP, .slice x.AG x.gr.length x.cG, .slice x.AJ x.jr.length x.cJ]] w fun e w' => ∃ y : Net, e = .returned (.agg #[.int .i64 y.tm.keep, .int .i64 y.tm.free, .int .i64 y.tm.step, .int .i64 y.tm.rate, .int .i64 y.tm.cap, .int .i64 y.tm.longer, .int .i64 y.tm.price, .int .i64 y.tm.most, .int .i64 y.room, .int .i64 y.secret, .int .i64 y.now, .slice y.AS y.st.length y.cS, .slice y.AP y.pc.length y.cP, .slice y.AG y.gr.length y.cG, .slice y.AJ y.jr.length y.cJ]) ∧ contN y = contN x ∧ NetAt w' w.heap.size w'.heap.size y ∧ Below w.heap.size w w' := by
  have hz0 : x.st.length ≤ 1048576 ∧ totS x.st ≤ 1048576 ∧ x.pc.length ≤ 1048576 ∧ x.gr.length ≤ 1048576 ∧ x.jr.length ≤ 1048576 := by unfold szNet at hz; omega
  obtain ⟨z1, z2, z3, z4, z5⟩ := hz0
  have HV := Lib.hid hV; clear hV hz
  go_enter Tryz.func7, Tryz.ntmps7
  go_wp2_with fail
  generalize hX : (((w.alloc (.cells #[.int .i64 x.tm.keep, .int .i64 x.tm.free, .int .i64 x.tm.step, .int .i64 x.tm.rate, .int .i64 x.tm.cap, .int .i64 x.tm.longer, .int .i64 x.tm.price, .int .i64 x.tm.most, .int .i64 x.room, .int .i64 x.secret, .int .i64 x.now, .slice x.AS x.st.length x.cS, .slice x.AP x.pc.length x.cP, .slice x.AG x.gr.length x.cG, .slice x.AJ x.jr.length x.cJ] 29)).alloc (.cells #[.int .i64 0, .int .i64 0, .int .i64 0, .int .i64 0, .int .i64 0, .int .i64 0, .int .i64 0, .int .i64 0, .int .i64 0, .int .i64 0, .int .i64 0, .slice none 0 0, .slice none 0 0, .slice none 0 0, .slice none 0 0] 38)).alloc (.cells #[.int .i64 0, .int .i64 0, .int .i64 0, .int .i64 0, .int .i64 0, .int .i64 0, .int .i64 0, .int .i64 0, .int .i64 0, .int .i64 0, .int .i64 0, .slice none 0 0, .slice none 0 0, .slice none 0 0, .slice none 0 0] 38)) = w1
  have b1 : Below w.heap.size w w1 := by rw [← hX]; exact bthen (bthen (balloc _ _) (balloc _ _)) (balloc _ _)
  have m0 : Has w1 (w.heap.size) 29 #[.int .i64 x.tm.keep, .int .i64 x.tm.free, .int .i64 x.tm.step, .int .i64 x.tm.rate, .int .i64 x.tm.cap, .int .i64 x.tm.longer, .int .i64 x.tm.price, .int .i64 x.tm.most, .int .i64 x.room, .int .i64 x.secret, .int .i64 x.now, .slice x.AS x.st.length x.cS, .slice x.AP x.pc.length x.cP, .slice x.AG x.gr.length x.cG, .slice x.AJ x.jr.length x.cJ] := by rw [← hX]; exact has_alloc (has_alloc (has_new _ _ _) _) _
  have m1 : Has w1 (w.heap.size + 1) 38 #[.int .i64 0, .int .i64 0, .int .i64 0, .int .i64 0, .int .i64 0, .int .i64 0, .int .i64 0, .int .i64 0, .int .i64 0, .int .i64 0, .int .i64 0, .slice none 0 0, .slice none 0 0, .slice none 0 0, .slice none 0 0] := by rw [← hX]; have := has_alloc (has_new (w.alloc (.cells #[.int .i64 x.tm.keep, .int .i64 x.tm.free, .int .i64 x.tm.step, .int .i64 x.tm.rate, .int .i64 x.tm.cap, .int .i64 x.tm.longer, .int .i64 x.tm.price, .int .i64 x.tm.most, .int .i64 x.room, .int .i64 x.secret, .int .i64 x.now, .slice x.AS x.st.length x.cS, .slice x.AP x.pc.length x.cP, .slice x.AG x.gr.length x.cG, .slice x.AJ x.jr.length x.cJ] 29)) 38 #[.int .i64 0, .int .i64 0, .int .i64 0, .int .i64 0, .int .i64 0, .int .i64 0, .int .i64 0, .int .i64 0, .int .i64 0, .int .i64 0, .int .i64 0, .slice none 0 0, .slice none 0 0, .slice none 0 0, .slice none 0 0]) (.cells #[.int .i64 0, .int .i64 0, .int .i64 0, .int .i64 0, .int .i64 0, .int .i64 0, .int .i64 0, .int .i64 0, .int .i64 0, .int .i64 0, .int .i64 0, .slice none 0 0, .slice none 0 0, .slice none 0 0, .slice none 0 0] 38); simpa using this
  have m2 : Has w1 (w.heap.size + 1 + 1) 38 #[.int .i64 0, .int .i64 0, .int .i64 0, .int .i64 0, .int .i64 0, .int .i64 0, .int .i64 0, .int .i64 0, .int .i64 0, .int .i64 0, .int .i64 0, .slice none 0 0, .slice none 0 0, .slice none 0 0, .slice none 0 0] := by rw [← hX]; have := has_new ((w.alloc (.cells #[.int .i64 x.tm.keep, .int .i64 x.tm.free, .int .i64 x.tm.step, .int .i64 x.tm.rate, .int .i64 x.tm.cap, .int .i64 x.tm.longer, .int .i64 x.tm.price, .int .i64 x.tm.most, .int .i64 x.room, .int .i64 x.secret, .int .i64 x.now, .slice x.AS x.st.length x.cS, .slice x.AP x.pc.length x.cP, .slice x.AG x.gr.length x.cG, .slice x.AJ x.jr.length x.cJ] 29)).alloc (.cells #[.int .i64 0, .int .i64 0, .int .i64 0, .int .i64 0, .int .i64 0, .int .i64 0, .int .i64 0, .int .i64 0, .int .i64 0, .int .i64 0, .int .i64 0, .slice none 0 0, .slice none 0 0, .slice none 0 0, .slice none 0 0] 38)) 38 #[.int .i64 0, .int .i64 0, .int .i64 0, .int .i64 0, .int .i64 0, .int .i64 0, .int .i64 0, .int .i64 0, .int .i64 0, .int .i64 0, .int .i64 0, .slice none 0 0, .slice none 0 0, .slice none 0 0, .slice none 0 0]; simpa using this
  clear hX
  have hs1 := has_lt m2
  have M0 := Lib.hid m0; have M1 := Lib.hid m1; have M2 := Lib.hid m2; have BB := Lib.hid b1; clear m0 m1 m2 b1
  refine (toTerms_any x.tm.keep x.tm.free x.tm.step x.tm.rate x.tm.cap x.tm.longer x.tm.price x.tm.most w1).mono ?_
  rintro e w2 ⟨rfl, hb⟩
  have kk := has_call M0.out hb; clear M0; have M0 := Lib.hid kk; clear kk
  have kk := has_call M1.out hb; clear M1; have M1 := Lib.hid kk; clear kk
  have kk := has_call M2.out hb; clear M2; have M2 := Lib.hid kk; clear kk
  have kk := bthen BB.out hb; clear BB; have BB := Lib.hid kk; clear kk
  have hsw2 := hb.size; clear hb
  have a8 := has_cell M0.out 8 rfl
  have a9 := has_cell M0.out 9 rfl
  have a10 := has_cell M0.out 10 rfl
  have a11 := has_cell M0.out 11 rfl
  have c0 := has_cell M2.out 0 rfl; have d0 := has_free M2.out 0
  have c1 := has_cell M2.out 1 rfl; have d1 := has_free M2.out 1
  have c2 := has_cell M2.out 2 rfl; have d2 := has_free M2.out 2
  have c3 := has_cell M2.out 3 rfl; have d3 := has_free M2.out 3
  have c4 := has_cell M2.out 4 rfl; have d4 := has_free M2.out 4
  have c5 := has_cell M2.out 5 rfl; have d5 := has_free M2.out 5
  have c6 := has_cell M2.out 6 rfl; have d6 := has_free M2.out 6
  have c7 := has_cell M2.out 7 rfl; have d7 := has_free M2.out 7
  have c8 := has_cell M2.out 8 rfl; have d8 := has_free M2.out 8
  have c9 := has_cell M2.out 9 rfl; have d9 := has_free M2.out 9
  have c10 := has_cell M2.out 10 rfl; have d10 := has_free M2.out 10
  have l0 := has_lt M0.out; have l1 := has_lt M1.out; have l2 := has_lt M2.out
  go_wp2_with fail
  clear a8 a9 a10 a11 c0 d0 c1 d1 c2 d2 c3 d3 c4 d4 c5 d5 c6 d6 c7 d7 c8 d8 c9 d9 c10 d10 l0 l1 l2
  generalize hX : (((((((((((w2.setCell ⟨w.heap.size + 1 + 1, 0, none⟩ (.int .i64 x.tm.keep)).setCell ⟨w.heap.size + 1 + 1, 1, none⟩ (.int .i64 x.tm.free)).setCell ⟨w.heap.size + 1 + 1, 2, none⟩ (.int .i64 x.tm.step)).setCell ⟨w.heap.size + 1 + 1, 3, none⟩ (.int .i64 x.tm.rate)).setCell ⟨w.heap.size + 1 + 1, 4, none⟩ (.int .i64 x.tm.cap)).setCell ⟨w.heap.size + 1 + 1, 5, none⟩ (.int .i64 x.tm.longer)).setCell ⟨w.heap.size + 1 + 1, 6, none⟩ (.int .i64 x.tm.price)).setCell ⟨w.heap.size + 1 + 1, 7, none⟩ (.int .i64 x.tm.most)).setCell ⟨w.heap.size + 1 + 1, 8, none⟩ (.int .i64 x.room)).setCell ⟨w.heap.size + 1 + 1, 9, none⟩ (.int .i64 x.secret)).setCell ⟨w.heap.size + 1 + 1, 10, none⟩ (.int .i64 x.now)) = w3
  have m2 : Has w3 (w.heap.size + 1 + 1) 38 #[.int .i64 x.tm.keep, .int .i64 x.tm.free, .int .i64 x.tm.step, .int .i64 x.tm.rate, .int .i64 x.tm.cap, .int .i64 x.tm.longer, .int .i64 x.tm.price, .int .i64 x.tm.most, .int .i64 x.room, .int .i64 x.secret, .int .i64 x.now, .slice none 0 0, .slice none 0 0, .slice none 0 0, .slice none 0 0] := by rw [← hX]; have h9 := (has_set (has_set (has_set (has_set (has_set (has_set (has_set (has_set (has_set (has_set (has_set M2.out 0 (.int .i64 x.tm.keep)) 1 (.int .i64 x.tm.free)) 2 (.int .i64 x.tm.step)) 3 (.int .i64 x.tm.rate)) 4 (.int .i64 x.tm.cap)) 5 (.int .i64 x.tm.longer)) 6 (.int .i64 x.tm.price)) 7 (.int .i64 x.tm.most)) 8 (.int .i64 x.room)) 9 (.int .i64 x.secret)) 10 (.int .i64 x.now)); simpa using h9
  have m0 : Has w3 (w.heap.size) 29 #[.int .i64 x.tm.keep, .int .i64 x.tm.free, .int .i64 x.tm.step, .int .i64 x.tm.rate, .int .i64 x.tm.cap, .int .i64 x.tm.longer, .int .i64 x.tm.price, .int .i64 x.tm.most, .int .i64 x.room, .int .i64 x.secret, .int .i64 x.now, .slice x.AS x.st.length x.cS, .slice x.AP x.pc.length x.cP, .slice x.AG x.gr.length x.cG, .slice x.AJ x.jr.length x.cJ] := by rw [← hX]; exact (has_far (has_far (has_far (has_far (has_far (has_far (has_far (has_far (has_far (has_far (has_far M0.out (p := ⟨w.heap.size + 1 + 1, 0, none⟩) (show w.heap.size ≠ w.heap.size + 1 + 1 by omega) (.int .i64 x.tm.keep)) (p := ⟨w.heap.size + 1 + 1, 1, none⟩) (show w.heap.size ≠ w.heap.size + 1 + 1 by omega) (.int .i64 x.tm.free)) (p := ⟨w.heap.size + 1 + 1, 2, none⟩) (show w.heap.size ≠ w.heap.size + 1 + 1 by omega) (.int .i64 x.tm.step)) (p := ⟨w.heap.size + 1 + 1, 3, none⟩) (show w.heap.size ≠ w.heap.size + 1 + 1 by omega) (.int .i64 x.tm.rate)) (p := ⟨w.heap.size + 1 + 1, 4, none⟩) (show w.heap.size ≠ w.heap.size + 1 + 1 by omega) (.int .i64 x.tm.cap)) (p := ⟨w.heap.size + 1 + 1, 5, none⟩) (show w.heap.size ≠ w.heap.size + 1 + 1 by omega) (.int .i64 x.tm.longer)) (p := ⟨w.heap.size + 1 + 1, 6, none⟩) (show w.heap.size ≠ w.heap.size + 1 + 1 by omega) (.int .i64 x.tm.price)) (p := ⟨w.heap.size + 1 + 1, 7, none⟩) (show w.heap.size ≠ w.heap.size + 1 + 1 by omega) (.int .i64 x.tm.most)) (p := ⟨w.heap.size + 1 + 1, 8, none⟩) (show w.heap.size ≠ w.heap.size + 1 + 1 by omega) (.int .i64 x.room)) (p := ⟨w.heap.size + 1 + 1, 9, none⟩) (show w.heap.size ≠ w.heap.size + 1 + 1 by omega) (.int .i64 x.secret)) (p := ⟨w.heap.size + 1 + 1, 10, none⟩) (show w.heap.size ≠ w.heap.size + 1 + 1 by omega) (.int .i64 x.now))
  have m1 : Has w3 (w.heap.size + 1) 38 #[.int .i64 0, .int .i64 0, .int .i64 0, .int .i64 0, .int .i64 0, .int .i64 0, .int .i64 0, .int .i64 0, .int .i64 0, .int .i64 0, .int .i64 0, .slice none 0 0, .slice none 0 0, .slice none 0 0, .slice none 0 0] := by rw [← hX]; exact (has_far (has_far (has_far (has_far (has_far (has_far (has_far (has_far (has_far (has_far (has_far M1.out (p := ⟨w.heap.size + 1 + 1, 0, none⟩) (show w.heap.size + 1 ≠ w.heap.size + 1 + 1 by omega) (.int .i64 x.tm.keep)) (p := ⟨w.heap.size + 1 + 1, 1, none⟩) (show w.heap.size + 1 ≠ w.heap.size + 1 + 1 by omega) (.int .i64 x.tm.free)) (p := ⟨w.heap.size + 1 + 1, 2, none⟩) (show w.heap.size + 1 ≠ w.heap.size + 1 + 1 by omega) (.int .i64 x.tm.step)) (p := ⟨w.heap.size + 1 + 1, 3, none⟩) (show w.heap.size + 1 ≠ w.heap.size + 1 + 1 by omega) (.int .i64 x.tm.rate)) (p := ⟨w.heap.size + 1 + 1, 4, none⟩) (show w.heap.size + 1 ≠ w.heap.size + 1 + 1 by omega) (.int .i64 x.tm.cap)) (p := ⟨w.heap.size + 1 + 1, 5, none⟩) (show w.heap.size + 1 ≠ w.heap.size + 1 + 1 by omega) (.int .i64 x.tm.longer)) (p := ⟨w.heap.size + 1 + 1, 6, none⟩) (show w.heap.size + 1 ≠ w.heap.size + 1 + 1 by omega) (.int .i64 x.tm.price)) (p := ⟨w.heap.size + 1 + 1, 7, none⟩) (show w.heap.size + 1 ≠ w.heap.size + 1 + 1 by omega) (.int .i64 x.tm.most)) (p := ⟨w.heap.size + 1 + 1, 8, none⟩) (show w.heap.size + 1 ≠ w.heap.size + 1 + 1 by omega) (.int .i64 x.room)) (p := ⟨w.heap.size + 1 + 1, 9, none⟩) (show w.heap.size + 1 ≠ w.heap.size + 1 + 1 by omega) (.int .i64 x.secret)) (p := ⟨w.heap.size + 1 + 1, 10, none⟩) (show w.heap.size + 1 ≠ w.heap.size + 1 + 1 by omega) (.int .i64 x.now))
  have b9 : Below w.heap.size w w3 := by rw [← hX]; exact (((((((((((BB.out.setCell (p := ⟨w.heap.size + 1 + 1, 0, none⟩) (by simp; omega) (.int .i64 x.tm.keep)).setCell (p := ⟨w.heap.size + 1 + 1, 1, none⟩) (by simp; omega) (.int .i64 x.tm.free)).setCell (p := ⟨w.heap.size + 1 + 1, 2, none⟩) (by simp; omega) (.int .i64 x.tm.step)).setCell (p := ⟨w.heap.size + 1 + 1, 3, none⟩) (by simp; omega) (.int .i64 x.tm.rate)).setCell (p := ⟨w.heap.size + 1 + 1, 4, none⟩) (by simp; omega) (.int .i64 x.tm.cap)).setCell (p := ⟨w.heap.size + 1 + 1, 5, none⟩) (by simp; omega) (.int .i64 x.tm.longer)).setCell (p := ⟨w.heap.size + 1 + 1, 6, none⟩) (by simp; omega) (.int .i64 x.tm.price)).setCell (p := ⟨w.heap.size + 1 + 1, 7, none⟩) (by simp; omega) (.int .i64 x.tm.most)).setCell (p := ⟨w.heap.size + 1 + 1, 8, none⟩) (by simp; omega) (.int .i64 x.room)).setCell (p := ⟨w.heap.size + 1 + 1, 9, none⟩) (by simp; omega) (.int .i64 x.secret)).setCell (p := ⟨w.heap.size + 1 + 1, 10, none⟩) (by simp; omega) (.int .i64 x.now))
  have hsw3 : w3.heap.size = w2.heap.size := by rw [← hX]; simp only [size_set]
  clear hX M0 M1 M2 BB
  have M0 := Lib.hid m0; have M1 := Lib.hid m1; have M2 := Lib.hid m2; have BB := Lib.hid b9; clear m0 m1 m2 b9
  refine (toSiteS_any w3 B x.AS x.cS x.st z1 z2 (by omega) ((HV.out.later hB BB.out).si) ((HV.out.later hB BB.out).sv)).mono ?_
  rintro e w4 ⟨AS, st', rfl, hct, hsa, hb⟩
  have HCT := Lib.hid hct; have O1 := Lib.hid hsa; clear hct hsa
  have kk := has_call M0.out hb; clear M0; have M0 := Lib.hid kk; clear kk
  have kk := has_call M1.out hb; clear M1; have M1 := Lib.hid kk; clear kk
  have kk := has_call M2.out hb; clear M2; have M2 := Lib.hid kk; clear kk
  have kk := bthen BB.out hb; clear BB; have BB := Lib.hid kk; clear kk
  have hsw4 := hb.size; clear hb
  have a12 := has_cell M0.out 12 rfl
  have c11 := has_cell M2.out 11 rfl; have d11 := has_free M2.out 11
  have l0 := has_lt M0.out; have l1 := has_lt M1.out; have l2 := has_lt M2.out
  go_wp2_with fail
  clear a12 c11 d11 l0 l1 l2
  generalize hX : (w4.setCell ⟨w.heap.size + 1 + 1, 11, none⟩ (.slice AS st'.length x.st.length)) = w5
  have m2 : Has w5 (w.heap.size + 1 + 1) 38 #[.int .i64 x.tm.keep, .int .i64 x.tm.free, .int .i64 x.tm.step, .int .i64 x.tm.rate, .int .i64 x.tm.cap, .int .i64 x.tm.longer, .int .i64 x.tm.price, .int .i64 x.tm.most, .int .i64 x.room, .int .i64 x.secret, .int .i64 x.now, .slice AS st'.length x.st.length, .slice none 0 0, .slice none 0 0, .slice none 0 0] := by rw [← hX]; have h9 := (has_set M2.out 11 (.slice AS st'.length x.st.length)); simpa using h9
  have m0 : Has w5 (w.heap.size) 29 #[.int .i64 x.tm.keep, .int .i64 x.tm.free, .int .i64 x.tm.step, .int .i64 x.tm.rate, .int .i64 x.tm.cap, .int .i64 x.tm.longer, .int .i64 x.tm.price, .int .i64 x.tm.most, .int .i64 x.room, .int .i64 x.secret, .int .i64 x.now, .slice x.AS x.st.length x.cS, .slice x.AP x.pc.length x.cP, .slice x.AG x.gr.length x.cG, .slice x.AJ x.jr.length x.cJ] := by rw [← hX]; exact (has_far M0.out (p := ⟨w.heap.size + 1 + 1, 11, none⟩) (show w.heap.size ≠ w.heap.size + 1 + 1 by omega) (.slice AS st'.length x.st.length))
  have m1 : Has w5 (w.heap.size + 1) 38 #[.int .i64 0, .int .i64 0, .int .i64 0, .int .i64 0, .int .i64 0, .int .i64 0, .int .i64 0, .int .i64 0, .int .i64 0, .int .i64 0, .int .i64 0, .slice none 0 0, .slice none 0 0, .slice none 0 0, .slice none 0 0] := by rw [← hX]; exact (has_far M1.out (p := ⟨w.heap.size + 1 + 1, 11, none⟩) (show w.heap.size + 1 ≠ w.heap.size + 1 + 1 by omega) (.slice AS st'.length x.st.length))
  have b9 : Below w.heap.size w w5 := by rw [← hX]; exact (BB.out.setCell (p := ⟨w.heap.size + 1 + 1, 11, none⟩) (by simp; omega) (.slice AS st'.length x.st.length))
  have hsw5 : w5.heap.size = w4.heap.size := by rw [← hX]; simp only [size_set]
  have kk : SitsAt w5 w3.heap.size w4.heap.size AS st' := by rw [← hX]; exact (O1.out.setlow (p := ⟨w.heap.size + 1 + 1, 11, none⟩) (by simp; omega) (.slice AS st'.length x.st.length))
  clear O1; have O1 := Lib.hid kk; clear kk
  clear hX M0 M1 M2 BB
  have M0 := Lib.hid m0; have M1 := Lib.hid m1; have M2 := Lib.hid m2; have BB := Lib.hid b9; clear m0 m1 m2 b9
  refine (toParcelS_any w5 B x.AP x.cP x.pc z3 (by omega) ((HV.out.later hB BB.out).pl)).mono ?_
  rintro e w6 ⟨AP, cP, rfl, hoj, hb⟩
  have O2 := Lib.hid (OI.of_or hoj); clear hoj
  have kk := has_call M0.out hb; clear M0; have M0 := Lib.hid kk; clear kk
  have kk := has_call M1.out hb; clear M1; have M1 := Lib.hid kk; clear kk
  have kk := has_call M2.out hb; clear M2; have M2 := Lib.hid kk; clear kk
  have kk := O1.out.call hb; clear O1; have O1 := Lib.hid kk; clear kk
  have kk := bthen BB.out hb; clear BB; have BB := Lib.hid kk; clear kk
  have hsw6 := hb.size; clear hb
  have a13 := has_cell M0.out 13 rfl
  have c12 := has_cell M2.out 12 rfl; have d12 := has_free M2.out 12
  have l0 := has_lt M0.out; have l1 := has_lt M1.out; have l2 := has_lt M2.out
  go_wp2_with fail
  clear a13 c12 d12 l0 l1 l2
  generalize hX : (w6.setCell ⟨w.heap.size + 1 + 1, 12, none⟩ (.slice AP x.pc.length cP)) = w7
  have m2 : Has w7 (w.heap.size + 1 + 1) 38 #[.int .i64 x.tm.keep, .int .i64 x.tm.free, .int .i64 x.tm.step, .int .i64 x.tm.rate, .int .i64 x.tm.cap, .int .i64 x.tm.longer, .int .i64 x.tm.price, .int .i64 x.tm.most, .int .i64 x.room, .int .i64 x.secret, .int .i64 x.now, .slice AS st'.length x.st.length, .slice AP x.pc.length cP, .slice none 0 0, .slice none 0 0] := by rw [← hX]; have h9 := (has_set M2.out 12 (.slice AP x.pc.length cP)); simpa using h9
  have m0 : Has w7 (w.heap.size) 29 #[.int .i64 x.tm.keep, .int .i64 x.tm.free, .int .i64 x.tm.step, .int .i64 x.tm.rate, .int .i64 x.tm.cap, .int .i64 x.tm.longer, .int .i64 x.tm.price, .int .i64 x.tm.most, .int .i64 x.room, .int .i64 x.secret, .int .i64 x.now, .slice x.AS x.st.length x.cS, .slice x.AP x.pc.length x.cP, .slice x.AG x.gr.length x.cG, .slice x.AJ x.jr.length x.cJ] := by rw [← hX]; exact (has_far M0.out (p := ⟨w.heap.size + 1 + 1, 12, none⟩) (show w.heap.size ≠ w.heap.size + 1 + 1 by omega) (.slice AP x.pc.length cP))
  have m1 : Has w7 (w.heap.size + 1) 38 #[.int .i64 0, .int .i64 0, .int .i64 0, .int .i64 0, .int .i64 0, .int .i64 0, .int .i64 0, .int .i64 0, .int .i64 0, .int .i64 0, .int .i64 0, .slice none 0 0, .slice none 0 0, .slice none 0 0, .slice none 0 0] := by rw [← hX]; exact (has_far M1.out (p := ⟨w.heap.size + 1 + 1, 12, none⟩) (show w.heap.size + 1 ≠ w.heap.size + 1 + 1 by omega) (.slice AP x.pc.length cP))
  have b9 : Below w.heap.size w w7 := by rw [← hX]; exact (BB.out.setCell (p := ⟨w.heap.size + 1 + 1, 12, none⟩) (by simp; omega) (.slice AP x.pc.length cP))
  have hsw7 : w7.heap.size = w6.heap.size := by rw [← hX]; simp only [size_set]
  have kk : SitsAt w7 w3.heap.size w4.heap.size AS st' := by rw [← hX]; exact (O1.out.setlow (p := ⟨w.heap.size + 1 + 1, 12, none⟩) (by simp; omega) (.slice AP x.pc.length cP))
  clear O1; have O1 := Lib.hid kk; clear kk
  have kk : OI w7 w5.heap.size w6.heap.size 55 AP (pcV x.pc) := by rw [← hX]; exact (O2.out.setlow (p := ⟨w.heap.size + 1 + 1, 12, none⟩) (by simp; omega) (.slice AP x.pc.length cP))
  clear O2; have O2 := Lib.hid kk; clear kk
  clear hX M0 M1 M2 BB
  have M0 := Lib.hid m0; have M1 := Lib.hid m1; have M2 := Lib.hid m2; have BB := Lib.hid b9; clear m0 m1 m2 b9
  refine (toGrantS_any w7 B x.AG x.cG x.gr z4 (by omega) ((HV.out.later hB BB.out).gl)).mono ?_
  rintro e w8 ⟨AG, cG, rfl, hoj, hb⟩
  have O3 := Lib.hid (OI.of_or hoj); clear hoj
  have kk := has_call M0.out hb; clear M0; have M0 := Lib.hid kk; clear kk
  have kk := has_call M1.out hb; clear M1; have M1 := Lib.hid kk; clear kk
  have kk := has_call M2.out hb; clear M2; have M2 := Lib.hid kk; clear kk
  have kk := O1.out.call hb; clear O1; have O1 := Lib.hid kk; clear kk
  have kk := O2.out.call hb; clear O2; have O2 := Lib.hid kk; clear kk
  have kk := bthen BB.out hb; clear BB; have BB := Lib.hid kk; clear kk
  have hsw8 := hb.size; clear hb
  have a14 := has_cell M0.out 14 rfl
  have c13 := has_cell M2.out 13 rfl; have d13 := has_free M2.out 13
  have l0 := has_lt M0.out; have l1 := has_lt M1.out; have l2 := has_lt M2.out
  go_wp2_with fail
  clear a14 c13 d13 l0 l1 l2
  generalize hX : (w8.setCell ⟨w.heap.size + 1 + 1, 13, none⟩ (.slice AG x.gr.length cG)) = w9
  have m2 : Has w9 (w.heap.size + 1 + 1) 38 #[.int .i64 x.tm.keep, .int .i64 x.tm.free, .int .i64 x.tm.step, .int .i64 x.tm.rate, .int .i64 x.tm.cap, .int .i64 x.tm.longer, .int .i64 x.tm.price, .int .i64 x.tm.most, .int .i64 x.room, .int .i64 x.secret, .int .i64 x.now, .slice AS st'.length x.st.length, .slice AP x.pc.length cP, .slice AG x.gr.length cG, .slice none 0 0] := by rw [← hX]; have h9 := (has_set M2.out 13 (.slice AG x.gr.length cG)); simpa using h9
  have m0 : Has w9 (w.heap.size) 29 #[.int .i64 x.tm.keep, .int .i64 x.tm.free, .int .i64 x.tm.step, .int .i64 x.tm.rate, .int .i64 x.tm.cap, .int .i64 x.tm.longer, .int .i64 x.tm.price, .int .i64 x.tm.most, .int .i64 x.room, .int .i64 x.secret, .int .i64 x.now, .slice x.AS x.st.length x.cS, .slice x.AP x.pc.length x.cP, .slice x.AG x.gr.length x.cG, .slice x.AJ x.jr.length x.cJ] := by rw [← hX]; exact (has_far M0.out (p := ⟨w.heap.size + 1 + 1, 13, none⟩) (show w.heap.size ≠ w.heap.size + 1 + 1 by omega) (.slice AG x.gr.length cG))
  have m1 : Has w9 (w.heap.size + 1) 38 #[.int .i64 0, .int .i64 0, .int .i64 0, .int .i64 0, .int .i64 0, .int .i64 0, .int .i64 0, .int .i64 0, .int .i64 0, .int .i64 0, .int .i64 0, .slice none 0 0, .slice none 0 0, .slice none 0 0, .slice none 0 0] := by rw [← hX]; exact (has_far M1.out (p := ⟨w.heap.size + 1 + 1, 13, none⟩) (show w.heap.size + 1 ≠ w.heap.size + 1 + 1 by omega) (.slice AG x.gr.length cG))
  have b9 : Below w.heap.size w w9 := by rw [← hX]; exact (BB.out.setCell (p := ⟨w.heap.size + 1 + 1, 13, none⟩) (by simp; omega) (.slice AG x.gr.length cG))
  have hsw9 : w9.heap.size = w8.heap.size := by rw [← hX]; simp only [size_set]
  have kk : SitsAt w9 w3.heap.size w4.heap.size AS st' := by rw [← hX]; exact (O1.out.setlow (p := ⟨w.heap.size + 1 + 1, 13, none⟩) (by simp; omega) (.slice AG x.gr.length cG))
  clear O1; have O1 := Lib.hid kk; clear kk
  have kk : OI w9 w5.heap.size w6.heap.size 55 AP (pcV x.pc) := by rw [← hX]; exact (O2.out.setlow (p := ⟨w.heap.size + 1 + 1, 13, none⟩) (by simp; omega) (.slice AG x.gr.length cG))
  clear O2; have O2 := Lib.hid kk; clear kk
  have kk : OI w9 w7.heap.size w8.heap.size 95 AG (grV x.gr) := by rw [← hX]; exact (O3.out.setlow (p := ⟨w.heap.size + 1 + 1, 13, none⟩) (by simp; omega) (.slice AG x.gr.length cG))
  clear O3; have O3 := Lib.hid kk; clear kk
  clear hX M0 M1 M2 BB
  have M0 := Lib.hid m0; have M1 := Lib.hid m1; have M2 := Lib.hid m2; have BB := Lib.hid b9; clear m0 m1 m2 b9
  refine (toEventS_any w9 B x.AJ x.cJ x.jr z5 (by omega) ((HV.out.later hB BB.out).ej)).mono ?_
  rintro e w10 ⟨AJ, cJ, rfl, hoj, hb⟩
  have O4 := Lib.hid (OI.of_or hoj); clear hoj
  have kk := has_call M0.out hb; clear M0; have M0 := Lib.hid kk; clear kk
  have kk := has_call M1.out hb; clear M1; have M1 := Lib.hid kk; clear kk
  have kk := has_call M2.out hb; clear M2; have M2 := Lib.hid kk; clear kk
  have kk := O1.out.call hb; clear O1; have O1 := Lib.hid kk; clear kk
  have kk := O2.out.call hb; clear O2; have O2 := Lib.hid kk; clear kk
  have kk := O3.out.call hb; clear O3; have O3 := Lib.hid kk; clear kk
  have kk := bthen BB.out hb; clear BB; have BB := Lib.hid kk; clear kk
  have hsw10 := hb.size; clear hb
  have c0 := has_cell M2.out 0 rfl; have d0 := has_free M2.out 0
  have c1 := has_cell M2.out 1 rfl; have d1 := has_free M2.out 1
  have c2 := has_cell M2.out 2 rfl; have d2 := has_free M2.out 2
  have c3 := has_cell M2.out 3 rfl; have d3 := has_free M2.out 3
  have c4 := has_cell M2.out 4 rfl; have d4 := has_free M2.out 4
  have c5 := has_cell M2.out 5 rfl; have d5 := has_free M2.out 5
  have c6 := has_cell M2.out 6 rfl; have d6 := has_free M2.out 6
  have c7 := has_cell M2.out 7 rfl; have d7 := has_free M2.out 7
  have c8 := has_cell M2.out 8 rfl; have d8 := has_free M2.out 8
  have c9 := has_cell M2.out 9 rfl; have d9 := has_free M2.out 9
  have c10 := has_cell M2.out 10 rfl; have d10 := has_free M2.out 10
  have c11 := has_cell M2.out 11 rfl; have d11 := has_free M2.out 11
  have c12 := has_cell M2.out 12 rfl; have d12 := has_free M2.out 12
  have c13 := has_cell M2.out 13 rfl; have d13 := has_free M2.out 13
  have c14 := has_cell M2.out 14 rfl; have d14 := has_free M2.out 14
  have l0 := has_lt M0.out; have l1 := has_lt M1.out; have l2 := has_lt M2.out
  have t0 := has_cell M1.out 0 rfl; have u0 := has_free M1.out 0; have t1 := has_cell M1.out 1 rfl; have u1 := has_free M1.out 1; have t2 := has_cell M1.out 2 rfl; have u2 := has_free M1.out 2; have t3 := has_cell M1.out 3 rfl; have u3 := has_free M1.out 3; have t4 := has_cell M1.out 4 rfl; have u4 := has_free M1.out 4; have t5 := has_cell M1.out 5 rfl; have u5 := has_free M1.out 5; have t6 := has_cell M1.out 6 rfl; have u6 := has_free M1.out 6; have t7 := has_cell M1.out 7 rfl; have u7 := has_free M1.out 7; have t8 := has_cell M1.out 8 rfl; have u8 := has_free M1.out 8; have t9 := has_cell M1.out 9 rfl; have u9 := has_free M1.out 9; have t10 := has_cell M1.out 10 rfl; have u10 := has_free M1.out 10; have t11 := has_cell M1.out 11 rfl; have u11 := has_free M1.out 11; have t12 := has_cell M1.out 12 rfl; have u12 := has_free M1.out 12; have t13 := has_cell M1.out 13 rfl; have u13 := has_free M1.out 13; have t14 := has_cell M1.out 14 rfl; have u14 := has_free M1.out 14
  go_wp2_with fail
  clear t0 u0 t1 u1 t2 u2 t3 u3 t4 u4 t5 u5 t6 u6 t7 u7 t8 u8 t9 u9 t10 u10 t11 u11 t12 u12 t13 u13 t14 u14
  clear c0 d0 c1 d1 c2 d2 c3 d3 c4 d4 c5 d5 c6 d6 c7 d7 c8 d8 c9 d9 c10 d10 c11 d11 c12 d12 c13 d13 c14 d14 l0 l1 l2
  have hf : Has ((((((((((((((((w10.setCell ⟨w.heap.size + 1 + 1, 14, none⟩ (.slice AJ x.jr.length cJ)).setCell ⟨w.heap.size + 1, 0, none⟩ (.int .i64 x.tm.keep)).setCell ⟨w.heap.size + 1, 1, none⟩ (.int .i64 x.tm.free)).setCell ⟨w.heap.size + 1, 2, none⟩ (.int .i64 x.tm.step)).setCell ⟨w.heap.size + 1, 3, none⟩ (.int .i64 x.tm.rate)).setCell ⟨w.heap.size + 1, 4, none⟩ (.int .i64 x.tm.cap)).setCell ⟨w.heap.size + 1, 5, none⟩ (.int .i64 x.tm.longer)).setCell ⟨w.heap.size + 1, 6, none⟩ (.int .i64 x.tm.price)).setCell ⟨w.heap.size + 1, 7, none⟩ (.int .i64 x.tm.most)).setCell ⟨w.heap.size + 1, 8, none⟩ (.int .i64 x.room)).setCell ⟨w.heap.size + 1, 9, none⟩ (.int .i64 x.secret)).setCell ⟨w.heap.size + 1, 10, none⟩ (.int .i64 x.now)).setCell ⟨w.heap.size + 1, 11, none⟩ (.slice AS st'.length x.st.length)).setCell ⟨w.heap.size + 1, 12, none⟩ (.slice AP x.pc.length cP)).setCell ⟨w.heap.size + 1, 13, none⟩ (.slice AG x.gr.length cG)).setCell ⟨w.heap.size + 1, 14, none⟩ (.slice AJ x.jr.length cJ)) (w.heap.size + 1) 38 #[.int .i64 x.tm.keep, .int .i64 x.tm.free, .int .i64 x.tm.step, .int .i64 x.tm.rate, .int .i64 x.tm.cap, .int .i64 x.tm.longer, .int .i64 x.tm.price, .int .i64 x.tm.most, .int .i64 x.room, .int .i64 x.secret, .int .i64 x.now, .slice AS st'.length x.st.length, .slice AP x.pc.length cP, .slice AG x.gr.length cG, .slice AJ x.jr.length cJ] := by
    have h9 := (has_set (has_set (has_set (has_set (has_set (has_set (has_set (has_set (has_set (has_set (has_set (has_set (has_set (has_set (has_set (has_far M1.out (p := ⟨w.heap.size + 1 + 1, 14, none⟩) (show w.heap.size + 1 ≠ w.heap.size + 1 + 1 by omega) (.slice AJ x.jr.length cJ)) 0 (.int .i64 x.tm.keep)) 1 (.int .i64 x.tm.free)) 2 (.int .i64 x.tm.step)) 3 (.int .i64 x.tm.rate)) 4 (.int .i64 x.tm.cap)) 5 (.int .i64 x.tm.longer)) 6 (.int .i64 x.tm.price)) 7 (.int .i64 x.tm.most)) 8 (.int .i64 x.room)) 9 (.int .i64 x.secret)) 10 (.int .i64 x.now)) 11 (.slice AS st'.length x.st.length)) 12 (.slice AP x.pc.length cP)) 13 (.slice AG x.gr.length cG)) 14 (.slice AJ x.jr.length cJ))
    simp only [l9a, l9z, l9s] at h9
    exact h9
  have g0 := has_cell hf 0 rfl; have g1 := has_cell hf 1 rfl; have g2 := has_cell hf 2 rfl; have g3 := has_cell hf 3 rfl; have g4 := has_cell hf 4 rfl; have g5 := has_cell hf 5 rfl; have g6 := has_cell hf 6 rfl; have g7 := has_cell hf 7 rfl; have g8 := has_cell hf 8 rfl; have g9 := has_cell hf 9 rfl; have g10 := has_cell hf 10 rfl; have g11 := has_cell hf 11 rfl; have g12 := has_cell hf 12 rfl; have g13 := has_cell hf 13 rfl; have g14 := has_cell hf 14 rfl
  clear hf
  refine bodyPost_ret (v := .agg #[.int .i64 x.tm.keep, .int .i64 x.tm.free, .int .i64 x.tm.step, .int .i64 x.tm.rate, .int .i64 x.tm.cap, .int .i64 x.tm.longer, .int .i64 x.tm.price, .int .i64 x.tm.most, .int .i64 x.room, .int .i64 x.secret, .int .i64 x.now, .slice AS st'.length x.st.length, .slice AP x.pc.length cP, .slice AG x.gr.length cG, .slice AJ x.jr.length cJ]) (by simp [results, Tryz.results7, go_sem, g0, g1, g2, g3, g4, g5, g6, g7, g8, g9, g10, g11, g12, g13, g14]) rfl ⟨⟨x.tm, x.room, x.secret, x.now, AS, st', x.st.length, AP, x.pc, cP, AG, x.gr, cG, AJ, x.jr, cJ⟩, rfl, ?_, ?_, ((((((((((((((((BB.out.setCell (p := ⟨w.heap.size + 1 + 1, 14, none⟩) (by simp; omega) (.slice AJ x.jr.length cJ)).setCell (p := ⟨w.heap.size + 1, 0, none⟩) (by simp) (.int .i64 x.tm.keep)).setCell (p := ⟨w.heap.size + 1, 1, none⟩) (by simp) (.int .i64 x.tm.free)).setCell (p := ⟨w.heap.size + 1, 2, none⟩) (by simp) (.int .i64 x.tm.step)).setCell (p := ⟨w.heap.size + 1, 3, none⟩) (by simp) (.int .i64 x.tm.rate)).setCell (p := ⟨w.heap.size + 1, 4, none⟩) (by simp) (.int .i64 x.tm.cap)).setCell (p := ⟨w.heap.size + 1, 5, none⟩) (by simp) (.int .i64 x.tm.longer)).setCell (p := ⟨w.heap.size + 1, 6, none⟩) (by simp) (.int .i64 x.tm.price)).setCell (p := ⟨w.heap.size + 1, 7, none⟩) (by simp) (.int .i64 x.tm.most)).setCell (p := ⟨w.heap.size + 1, 8, none⟩) (by simp) (.int .i64 x.room)).setCell (p := ⟨w.heap.size + 1, 9, none⟩) (by simp) (.int .i64 x.secret)).setCell (p := ⟨w.heap.size + 1, 10, none⟩) (by simp) (.int .i64 x.now)).setCell (p := ⟨w.heap.size + 1, 11, none⟩) (by simp) (.slice AS st'.length x.st.length)).setCell (p := ⟨w.heap.size + 1, 12, none⟩) (by simp) (.slice AP x.pc.length cP)).setCell (p := ⟨w.heap.size + 1, 13, none⟩) (by simp) (.slice AG x.gr.length cG)).setCell (p := ⟨w.heap.size + 1, 14, none⟩) (by simp) (.slice AJ x.jr.length cJ))⟩
  · unfold contN; dsimp only; rw [HCT.out]
  · refine ⟨w4.heap.size, w6.heap.size, w8.heap.size, by omega, by omega, by omega, by simp only [size_set]; omega, ?_, ?_, ?_, ?_⟩
    · exact SitsAt.wider (SitsAt.setlow (SitsAt.setlow (SitsAt.setlow (SitsAt.setlow (SitsAt.setlow (SitsAt.setlow (SitsAt.setlow (SitsAt.setlow (SitsAt.setlow (SitsAt.setlow (SitsAt.setlow (SitsAt.setlow (SitsAt.setlow (SitsAt.setlow (SitsAt.setlow (SitsAt.setlow O1.out (p := ⟨w.heap.size + 1 + 1, 14, none⟩) (by simp; omega) (.slice AJ x.jr.length cJ)) (p := ⟨w.heap.size + 1, 0, none⟩) (by simp; omega) (.int .i64 x.tm.keep)) (p := ⟨w.heap.size + 1, 1, none⟩) (by simp; omega) (.int .i64 x.tm.free)) (p := ⟨w.heap.size + 1, 2, none⟩) (by simp; omega) (.int .i64 x.tm.step)) (p := ⟨w.heap.size + 1, 3, none⟩) (by simp; omega) (.int .i64 x.tm.rate)) (p := ⟨w.heap.size + 1, 4, none⟩) (by simp; omega) (.int .i64 x.tm.cap)) (p := ⟨w.heap.size + 1, 5, none⟩) (by simp; omega) (.int .i64 x.tm.longer)) (p := ⟨w.heap.size + 1, 6, none⟩) (by simp; omega) (.int .i64 x.tm.price)) (p := ⟨w.heap.size + 1, 7, none⟩) (by simp; omega) (.int .i64 x.tm.most)) (p := ⟨w.heap.size + 1, 8, none⟩) (by simp; omega) (.int .i64 x.room)) (p := ⟨w.heap.size + 1, 9, none⟩) (by simp; omega) (.int .i64 x.secret)) (p := ⟨w.heap.size + 1, 10, none⟩) (by simp; omega) (.int .i64 x.now)) (p := ⟨w.heap.size + 1, 11, none⟩) (by simp; omega) (.slice AS st'.length x.st.length)) (p := ⟨w.heap.size + 1, 12, none⟩) (by simp; omega) (.slice AP x.pc.length cP)) (p := ⟨w.heap.size + 1, 13, none⟩) (by simp; omega) (.slice AG x.gr.length cG)) (p := ⟨w.heap.size + 1, 14, none⟩) (by simp; omega) (.slice AJ x.jr.length cJ)) (by omega) (Nat.le_refl _)
    · exact OI.wider (OI.setlow (OI.setlow (OI.setlow (OI.setlow (OI.setlow (OI.setlow (OI.setlow (OI.setlow (OI.setlow (OI.setlow (OI.setlow (OI.setlow (OI.setlow (OI.setlow (OI.setlow (OI.setlow O2.out (p := ⟨w.heap.size + 1 + 1, 14, none⟩) (by simp; omega) (.slice AJ x.jr.length cJ)) (p := ⟨w.heap.size + 1, 0, none⟩) (by simp; omega) (.int .i64 x.tm.keep)) (p := ⟨w.heap.size + 1, 1, none⟩) (by simp; omega) (.int .i64 x.tm.free)) (p := ⟨w.heap.size + 1, 2, none⟩) (by simp; omega) (.int .i64 x.tm.step)) (p := ⟨w.heap.size + 1, 3, none⟩) (by simp; omega) (.int .i64 x.tm.rate)) (p := ⟨w.heap.size + 1, 4, none⟩) (by simp; omega) (.int .i64 x.tm.cap)) (p := ⟨w.heap.size + 1, 5, none⟩) (by simp; omega) (.int .i64 x.tm.longer)) (p := ⟨w.heap.size + 1, 6, none⟩) (by simp; omega) (.int .i64 x.tm.price)) (p := ⟨w.heap.size + 1, 7, none⟩) (by simp; omega) (.int .i64 x.tm.most)) (p := ⟨w.heap.size + 1, 8, none⟩) (by simp; omega) (.int .i64 x.room)) (p := ⟨w.heap.size + 1, 9, none⟩) (by simp; omega) (.int .i64 x.secret)) (p := ⟨w.heap.size + 1, 10, none⟩) (by simp; omega) (.int .i64 x.now)) (p := ⟨w.heap.size + 1, 11, none⟩) (by simp; omega) (.slice AS st'.length x.st.length)) (p := ⟨w.heap.size + 1, 12, none⟩) (by simp; omega) (.slice AP x.pc.length cP)) (p := ⟨w.heap.size + 1, 13, none⟩) (by simp; omega) (.slice AG x.gr.length cG)) (p := ⟨w.heap.size + 1, 14, none⟩) (by simp; omega) (.slice AJ x.jr.length cJ)) (by omega) (Nat.le_refl _)
    · exact OI.wider (OI.setlow (OI.setlow (OI.setlow (OI.setlow (OI.setlow (OI.setlow (OI.setlow (OI.setlow (OI.setlow (OI.setlow (OI.setlow (OI.setlow (OI.setlow (OI.setlow (OI.setlow (OI.setlow O3.out (p := ⟨w.heap.size + 1 + 1, 14, none⟩) (by simp; omega) (.slice AJ x.jr.length cJ)) (p := ⟨w.heap.size + 1, 0, none⟩) (by simp; omega) (.int .i64 x.tm.keep)) (p := ⟨w.heap.size + 1, 1, none⟩) (by simp; omega) (.int .i64 x.tm.free)) (p := ⟨w.heap.size + 1, 2, none⟩) (by simp; omega) (.int .i64 x.tm.step)) (p := ⟨w.heap.size + 1, 3, none⟩) (by simp; omega) (.int .i64 x.tm.rate)) (p := ⟨w.heap.size + 1, 4, none⟩) (by simp; omega) (.int .i64 x.tm.cap)) (p := ⟨w.heap.size + 1, 5, none⟩) (by simp; omega) (.int .i64 x.tm.longer)) (p := ⟨w.heap.size + 1, 6, none⟩) (by simp; omega) (.int .i64 x.tm.price)) (p := ⟨w.heap.size + 1, 7, none⟩) (by simp; omega) (.int .i64 x.tm.most)) (p := ⟨w.heap.size + 1, 8, none⟩) (by simp; omega) (.int .i64 x.room)) (p := ⟨w.heap.size + 1, 9, none⟩) (by simp; omega) (.int .i64 x.secret)) (p := ⟨w.heap.size + 1, 10, none⟩) (by simp; omega) (.int .i64 x.now)) (p := ⟨w.heap.size + 1, 11, none⟩) (by simp; omega) (.slice AS st'.length x.st.length)) (p := ⟨w.heap.size + 1, 12, none⟩) (by simp; omega) (.slice AP x.pc.length cP)) (p := ⟨w.heap.size + 1, 13, none⟩) (by simp; omega) (.slice AG x.gr.length cG)) (p := ⟨w.heap.size + 1, 14, none⟩) (by simp; omega) (.slice AJ x.jr.length cJ)) (by omega) (Nat.le_refl _)
    · exact OI.wider (OI.setlow (OI.setlow (OI.setlow (OI.setlow (OI.setlow (OI.setlow (OI.setlow (OI.setlow (OI.setlow (OI.setlow (OI.setlow (OI.setlow (OI.setlow (OI.setlow (OI.setlow (OI.setlow O4.out (p := ⟨w.heap.size + 1 + 1, 14, none⟩) (by simp; omega) (.slice AJ x.jr.length cJ)) (p := ⟨w.heap.size + 1, 0, none⟩) (by simp; omega) (.int .i64 x.tm.keep)) (p := ⟨w.heap.size + 1, 1, none⟩) (by simp; omega) (.int .i64 x.tm.free)) (p := ⟨w.heap.size + 1, 2, none⟩) (by simp; omega) (.int .i64 x.tm.step)) (p := ⟨w.heap.size + 1, 3, none⟩) (by simp; omega) (.int .i64 x.tm.rate)) (p := ⟨w.heap.size + 1, 4, none⟩) (by simp; omega) (.int .i64 x.tm.cap)) (p := ⟨w.heap.size + 1, 5, none⟩) (by simp; omega) (.int .i64 x.tm.longer)) (p := ⟨w.heap.size + 1, 6, none⟩) (by simp; omega) (.int .i64 x.tm.price)) (p := ⟨w.heap.size + 1, 7, none⟩) (by simp; omega) (.int .i64 x.tm.most)) (p := ⟨w.heap.size + 1, 8, none⟩) (by simp; omega) (.int .i64 x.room)) (p := ⟨w.heap.size + 1, 9, none⟩) (by simp; omega) (.int .i64 x.secret)) (p := ⟨w.heap.size + 1, 10, none⟩) (by simp; omega) (.int .i64 x.now)) (p := ⟨w.heap.size + 1, 11, none⟩) (by simp; omega) (.slice AS st'.length x.st.length)) (p := ⟨w.heap.size + 1, 12, none⟩) (by simp; omega) (.slice AP x.pc.length cP)) (p := ⟨w.heap.size + 1, 13, none⟩) (by simp; omega) (.slice AG x.gr.length cG)) (p := ⟨w.heap.size + 1, 14, none⟩) (by simp; omega) (.slice AJ x.jr.length cJ)) (by omega) (by simp only [size_set]; exact Nat.le_refl _)
set_option maxHeartbeats 2000000 in
theorem eqNetwork_any (w : World) (B B' : Nat) (x y : Net) (hc : contN y = contN x) (hz : szNet x ≤ 1048576) (hB : B ≤ w.heap.size) (hB' : B' ≤ w.heap.size) (hV : NetV w B x) (hV' : NetV w B' y) :
    Calls Tryz.prog 9 #[.agg #[.int .i64 x.tm.keep, .int .i64 x.tm.free, .int .i64 x.tm.step, .int .i64 x.tm.rate, .int .i64 x.tm.cap, .int .i64 x.tm.longer, .int .i64 x.tm.price, .int .i64 x.tm.most, .int .i64 x.room, .int .i64 x.secret, .int .i64 x.now, .slice x.AS x.st.length x.cS, .slice x.AP x.pc.length x.cP, .slice x.AG x.gr.length x.cG, .slice x.AJ x.jr.length x.cJ], .agg #[.int .i64 y.tm.keep, .int .i64 y.tm.free, .int .i64 y.tm.step, .int .i64 y.tm.rate, .int .i64 y.tm.cap, .int .i64 y.tm.longer, .int .i64 y.tm.price, .int .i64 y.tm.most, .int .i64 y.room, .int .i64 y.secret, .int .i64 y.now, .slice y.AS y.st.length y.cS, .slice y.AP y.pc.length y.cP, .slice y.AG y.gr.length y.cG, .slice y.AJ y.jr.length y.cJ]] w fun e w' => e = .returned (.bool true) ∧ Below w.heap.size w w' := by
  have hz0 : x.st.length ≤ 1048576 ∧ totS x.st ≤ 1048576 ∧ x.pc.length ≤ 1048576 ∧ x.gr.length ≤ 1048576 ∧ x.jr.length ≤ 1048576 := by unfold szNet at hz; omega
  obtain ⟨tm, room, secret, now, AS, st, cS, AP, pc, cP, AG, gr, cG, AJ, jr, cJ⟩ := x
  obtain ⟨tm', room', secret', now', AS', st', cS', AP', pc', cP', AG', gr', cG', AJ', jr', cJ'⟩ := y
  simp only [contN, Prod.mk.injEq] at hc
  obtain ⟨rfl, ⟨rfl, rfl, rfl⟩, hct, rfl, rfl, rfl⟩ := hc
  dsimp only at hz0 ⊢
  have hlb := len_contS hct
  obtain ⟨z1, z2, z3, z4, z5⟩ := hz0
  have HV := Lib.hid hV; have HV' := Lib.hid hV'; have HCT := Lib.hid hct; clear hV hV' hz hct
  rw [hlb]; clear hlb
  have e1 : (room' != room') = false := by simp
  have e2 : (secret' != secret') = false := by simp
  have e3 : (now' != now') = false := by simp
  have x3 : pc'.length ≤ maxLen := by unfold maxLen; omega
  have x4 : gr'.length ≤ maxLen := by unfold maxLen; omega
  have x5 : jr'.length ≤ maxLen := by unfold maxLen; omega
  go_enter Tryz.func9, Tryz.ntmps9
  go_wp2_with fail
  generalize hX : ((w.alloc (.cells #[.int .i64 tm'.keep, .int .i64 tm'.free, .int .i64 tm'.step, .int .i64 tm'.rate, .int .i64 tm'.cap, .int .i64 tm'.longer, .int .i64 tm'.price, .int .i64 tm'.most, .int .i64 room', .int .i64 secret', .int .i64 now', .slice AS st.length cS, .slice AP pc'.length cP, .slice AG gr'.length cG, .slice AJ jr'.length cJ] 38)).alloc (.cells #[.int .i64 tm'.keep, .int .i64 tm'.free, .int .i64 tm'.step, .int .i64 tm'.rate, .int .i64 tm'.cap, .int .i64 tm'.longer, .int .i64 tm'.price, .int .i64 tm'.most, .int .i64 room', .int .i64 secret', .int .i64 now', .slice AS' st.length cS', .slice AP' pc'.length cP', .slice AG' gr'.length cG', .slice AJ' jr'.length cJ'] 38)) = w1
  have b1 : Below w.heap.size w w1 := by rw [← hX]; exact bthen (balloc _ _) (balloc _ _)
  have m0 : Has w1 w.heap.size 38 #[.int .i64 tm'.keep, .int .i64 tm'.free, .int .i64 tm'.step, .int .i64 tm'.rate, .int .i64 tm'.cap, .int .i64 tm'.longer, .int .i64 tm'.price, .int .i64 tm'.most, .int .i64 room', .int .i64 secret', .int .i64 now', .slice AS st.length cS, .slice AP pc'.length cP, .slice AG gr'.length cG, .slice AJ jr'.length cJ] := by rw [← hX]; exact has_alloc (has_new _ _ _) _
  have m1 : Has w1 (w.heap.size + 1) 38 #[.int .i64 tm'.keep, .int .i64 tm'.free, .int .i64 tm'.step, .int .i64 tm'.rate, .int .i64 tm'.cap, .int .i64 tm'.longer, .int .i64 tm'.price, .int .i64 tm'.most, .int .i64 room', .int .i64 secret', .int .i64 now', .slice AS' st.length cS', .slice AP' pc'.length cP', .slice AG' gr'.length cG', .slice AJ' jr'.length cJ'] := by rw [← hX]; have := has_new (w.alloc (.cells #[.int .i64 tm'.keep, .int .i64 tm'.free, .int .i64 tm'.step, .int .i64 tm'.rate, .int .i64 tm'.cap, .int .i64 tm'.longer, .int .i64 tm'.price, .int .i64 tm'.most, .int .i64 room', .int .i64 secret', .int .i64 now', .slice AS st.length cS, .slice AP pc'.length cP, .slice AG gr'.length cG, .slice AJ jr'.length cJ] 38)) 38 #[.int .i64 tm'.keep, .int .i64 tm'.free, .int .i64 tm'.step, .int .i64 tm'.rate, .int .i64 tm'.cap, .int .i64 tm'.longer, .int .i64 tm'.price, .int .i64 tm'.most, .int .i64 room', .int .i64 secret', .int .i64 now', .slice AS' st.length cS', .slice AP' pc'.length cP', .slice AG' gr'.length cG', .slice AJ' jr'.length cJ']; simpa using this
  clear hX
  have M0 := Lib.hid m0; have M1 := Lib.hid m1; have BB := Lib.hid b1; have hs1 := b1.size; clear m0 m1 b1
  refine (eqTerms_any tm'.keep tm'.free tm'.step tm'.rate tm'.cap tm'.longer tm'.price tm'.most w1).mono ?_
  rintro e w2 ⟨rfl, hb⟩
  have kk := has_call M0.out hb; clear M0; have M0 := Lib.hid kk; clear kk
  have kk := has_call M1.out hb; clear M1; have M1 := Lib.hid kk; clear kk
  have kk := bthen BB.out hb; clear BB; have BB := Lib.hid kk; clear kk
  have hsw2 := hb.size; clear hb
  have a08 := has_cell M0.out 8 rfl
  have a09 := has_cell M0.out 9 rfl
  have a010 := has_cell M0.out 10 rfl
  have a011 := has_cell M0.out 11 rfl
  have l0 := has_lt M0.out
  have a18 := has_cell M1.out 8 rfl
  have a19 := has_cell M1.out 9 rfl
  have a110 := has_cell M1.out 10 rfl
  have a111 := has_cell M1.out 11 rfl
  have l1 := has_lt M1.out
  go_wp2_with fail
  clear a08 a09 a010 a011 a18 a19 a110 a111 l0 l1
  refine (eqSiteS_any w2 B B' AS AS' cS cS' st.length st st' z1 rfl z2 HCT.out (by omega) (by omega) (HV.out.later hB BB.out).si (HV.out.later hB BB.out).sv (HV'.out.later hB' BB.out).si (HV'.out.later hB' BB.out).sv).mono ?_
  rintro e w3 ⟨rfl, hb⟩
  have kk := has_call M0.out hb; clear M0; have M0 := Lib.hid kk; clear kk
  have kk := has_call M1.out hb; clear M1; have M1 := Lib.hid kk; clear kk
  have kk := bthen BB.out hb; clear BB; have BB := Lib.hid kk; clear kk
  have hsw3 := hb.size; clear hb
  have a012 := has_cell M0.out 12 rfl
  have l0 := has_lt M0.out
  have a112 := has_cell M1.out 12 rfl
  have l1 := has_lt M1.out
  go_wp2_with fail
  clear a012 a112 l0 l1
  refine (eqParcelS_any w3 B B' AP AP' cP cP' pc' x3 (by omega) (by omega) (HV.out.later hB BB.out).pl (HV'.out.later hB' BB.out).pl).mono ?_
  rintro e w4 ⟨rfl, hb⟩
  have kk := has_call M0.out hb; clear M0; have M0 := Lib.hid kk; clear kk
  have kk := has_call M1.out hb; clear M1; have M1 := Lib.hid kk; clear kk
  have kk := bthen BB.out hb; clear BB; have BB := Lib.hid kk; clear kk
  have hsw4 := hb.size; clear hb
  have a013 := has_cell M0.out 13 rfl
  have l0 := has_lt M0.out
  have a113 := has_cell M1.out 13 rfl
  have l1 := has_lt M1.out
  go_wp2_with fail
  clear a013 a113 l0 l1
  refine (eqGrantS_any w4 B B' AG AG' cG cG' gr' x4 (by omega) (by omega) (HV.out.later hB BB.out).gl (HV'.out.later hB' BB.out).gl).mono ?_
  rintro e w5 ⟨rfl, hb⟩
  have kk := has_call M0.out hb; clear M0; have M0 := Lib.hid kk; clear kk
  have kk := has_call M1.out hb; clear M1; have M1 := Lib.hid kk; clear kk
  have kk := bthen BB.out hb; clear BB; have BB := Lib.hid kk; clear kk
  have hsw5 := hb.size; clear hb
  have a014 := has_cell M0.out 14 rfl
  have l0 := has_lt M0.out
  have a114 := has_cell M1.out 14 rfl
  have l1 := has_lt M1.out
  go_wp2_with fail
  clear a014 a114 l0 l1
  refine (eqEventS_any w5 B B' AJ AJ' cJ cJ' jr' x5 (by omega) (by omega) (HV.out.later hB BB.out).ej (HV'.out.later hB' BB.out).ej).mono ?_
  rintro e w6 ⟨rfl, hb⟩
  go_wp2_with fail
  go_ret
  exact ⟨rfl, bthen BB.out hb⟩
end Go.Proofs.YtjpkpfmpjgeeiaaGreat
