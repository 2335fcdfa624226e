
/- Chapter 9: the model's l09BoxesOk (gen_npx.py). -/
import Derived.Test.YtjpkpfmpjgeeiaaGreatQ30
import Derived.Test.YtjpkpfmpjgeeiaaGreatQ31
import Derived.Test.YtjpkpfmpjgeeiaaGreatQ06
import Derived.Deep.DeepCutAuto
import Derived.Deep.QuietTactic
import Derived.BigQuiet
namespace Go.Proofs.YtjpkpfmpjgeeiaaGreat
open Go.RowKit
set_option linter.unusedVariables false
set_option maxRecDepth 100000
theorem low_ge9 {L : List Bx} (hs : ∀ y ∈ L, 1 ≤ y.size) : ∀ k, k ≤ L.length → (k : Int) ≤ lowAt L k
  | 0, _ => by simp [lowAt]
  | k + 1, h => by
    have hx := List.getElem?_eq_getElem (show k < L.length by omega)
    have := hs _ (List.getElem_mem (show k < L.length by omega))
    have := low_ge9 hs k (by omega)
    rw [lowAt_succ hx]; push_cast; omega
theorem col_len9 {z : Int} {F : List Int} {L : List Bx} (h : ColOk z F L) : L.length ≤ 24 := by
  have hs : ∀ y ∈ L, 1 ≤ y.size := fun y hy => by
    obtain ⟨k, hk⟩ := List.getElem?_of_mem hy
    exact (h.box k y (List.getElem?_eq_some_iff.1 hk).1 hk).2.1
  have h1 := low_ge9 hs L.length (Nat.le_refl _)
  rw [h.top] at h1
  have := h.fix.hi
  omega
theorem cntX_bd (L : List Bx) : 0 ≤ cntX L ∧ cntX L ≤ (L.length : Nat) := by
  unfold cntX
  have := List.length_filter_le (fun b : Bx => b.par != 0) L
  omega
theorem cntC_bd : ∀ {l : List Cl}, (∀ c ∈ l, c.L.length ≤ 24) → 0 ≤ cntC l ∧ cntC l ≤ 24 * (l.length : Int)
  | [], _ => by simp [cntC]
  | c :: r, h => by
    have ih := cntC_bd (l := r) fun x hx => h x (List.mem_cons_of_mem _ hx)
    have h1 := cntX_bd c.L
    have h2 := h c List.mem_cons_self
    have e : cntC (c :: r) = cntX c.L + cntC r := by simp [cntC]
    rw [e, List.length_cons]; push_cast; omega
theorem cntN_bd : ∀ {l : List Sit}, (∀ s ∈ l, BankP s.bk) → 0 ≤ cntN l ∧ cntN l ≤ 144 * (l.length : Int)
  | [], _ => by simp [cntN]
  | c :: r, h => by
    have ih := cntN_bd (l := r) fun x hx => h x (List.mem_cons_of_mem _ hx)
    have hb := h c List.mem_cons_self
    have h1 := cntC_bd (l := c.bk) fun x hx => col_len9 (hb.2.1 x hx)
    have h2 := hb.1.2
    have e : cntN (c :: r) = cntC c.bk + cntN r := by simp [cntN]
    rw [e, List.length_cons]; push_cast; omega
theorem kepN_bd (P : List Pc) : 0 ≤ kepN P ∧ kepN P ≤ (P.length : Nat) := by
  unfold kepN
  have := List.length_filter_le keptB P
  omega
def AllBel (P : List Pc) (k : Nat) (L : List Bx) : Prop := ∀ b ∈ L, b.par ≠ 0 → belB P k b = true
def AllCol (P : List Pc) (k : Nat) (l : List Cl) : Prop := ∀ c ∈ l, AllBel P k c.L
def AllSit (x : Net) (m : Nat) : Prop := ∀ (k : Nat) (s : Sit), k < m → x.st[k]? = some s → AllCol x.pc k s.bk
theorem AllBel.succ {P : List Pc} {k m : Nat} {L : List Bx} {b : Bx} (h : AllBel P k (L.take m)) (hb : L[m]? = some b) (hx : b.par ≠ 0 → belB P k b = true) : AllBel P k (L.take (m + 1)) := fun c hc => by
  rw [List.take_add_one, hb] at hc
  rcases List.mem_append.1 hc with h1 | h1
  · exact h c h1
  · simp at h1; subst h1; exact hx
theorem AllCol.succ {P : List Pc} {k m : Nat} {l : List Cl} {c : Cl} (h : AllCol P k (l.take m)) (hc : l[m]? = some c) (hx : AllBel P k c.L) : AllCol P k (l.take (m + 1)) := fun d hd => by
  rw [List.take_add_one, hc] at hd
  rcases List.mem_append.1 hd with h1 | h1
  · exact h d h1
  · simp at h1; subst h1; exact hx
theorem AllSit.succ {x : Net} {m : Nat} {s : Sit} (h : AllSit x m) (hs : x.st[m]? = some s) (hx : AllCol x.pc m s.bk) : AllSit x (m + 1) := fun k t hk ht => by
  by_cases e : k = m
  · subst e; rw [hs] at ht; injection ht with ht; subst ht; exact hx
  · exact h k t (by omega) ht
theorem AllSit.all {x : Net} (h : AllSit x x.st.length) : BoxesB x := fun k s hs => h k s (List.getElem?_eq_some_iff.1 hs).1 hs
theorem bel_at {P : List Pc} {k i : Nat} {b : Bx} {p : Pc} (hb : b.par = (i : Int) + 1) (hp : P[i]? = some p) : belB P k b = (keptB p && p.site == (k : Int) && p.size == b.size && !(p.stage == 2 && b.jam)) := by
  have hi := (List.getElem?_eq_some_iff.1 hp).1
  have h1 : inR b.par 1 P.length = true := inR_iff.2 ⟨by omega, by omega⟩
  unfold belB
  rw [h1, hb, pcAt_eq hp, Bool.true_and]
theorem not_boxes {x : Net} {k : Nat} {s : Sit} {c : Cl} {b : Bx} (hs : x.st[k]? = some s) (hc : c ∈ s.bk) (hb : b ∈ c.L) (h0 : b.par ≠ 0) (hn : belB x.pc k b = false) : ¬ BoxesB x := fun h => by
  have := h k s hs c hc b hb h0
  rw [hn] at this; cases this
set_option maxHeartbeats 8000000 in
theorem boxesS9_any (w : World) (B : Nat) (n : Net) (hB : B ≤ w.heap.size) (hV : NetV w B n) (hP : ∀ s ∈ n.st, BankP s.bk) (hl3 : n.st.length ≤ 3) (hl : n.pc.length ≤ 12) :
    Calls Tryz.prog 39 #[.agg #[.int .i64 n.tm.keep, .int .i64 n.tm.free, .int .i64 n.tm.step, .int .i64 n.tm.rate, .int .i64 n.tm.cap, .int .i64 n.tm.longer, .int .i64 n.tm.price, .int .i64 n.tm.most, .int .i64 n.room, .int .i64 n.secret, .int .i64 n.now, .slice n.AS n.st.length n.cS, .slice n.AP n.pc.length n.cP, .slice n.AG n.gr.length n.cG, .slice n.AJ n.jr.length n.cJ]] w (Tells (BoxesB n ∧ cntN n.st = kepN n.pc) w) := by
  have HV := Lib.hid hV; have HP := Lib.hid hP; clear hV hP
  go_enter Tryz.func39, Tryz.ntmps39
  go_upto_region 1 with fail
  generalize hW : w.alloc (.cells #[.int .i64 n.tm.keep, .int .i64 n.tm.free, .int .i64 n.tm.step, .int .i64 n.tm.rate, .int .i64 n.tm.cap, .int .i64 n.tm.longer, .int .i64 n.tm.price, .int .i64 n.tm.most, .int .i64 n.room, .int .i64 n.secret, .int .i64 n.now, .slice n.AS n.st.length n.cS, .slice n.AP n.pc.length n.cP, .slice n.AG n.gr.length n.cG, .slice n.AJ n.jr.length n.cJ] 38) = w1
  have b1 : Below w.heap.size w w1 := by rw [← hW]; exact balloc _ _
  have k0 : Has w1 w.heap.size 38 #[.int .i64 n.tm.keep, .int .i64 n.tm.free, .int .i64 n.tm.step, .int .i64 n.tm.rate, .int .i64 n.tm.cap, .int .i64 n.tm.longer, .int .i64 n.tm.price, .int .i64 n.tm.most, .int .i64 n.room, .int .i64 n.secret, .int .i64 n.now, .slice n.AS n.st.length n.cS, .slice n.AP n.pc.length n.cP, .slice n.AG n.gr.length n.cG, .slice n.AJ n.jr.length n.cJ] := by rw [← hW]; exact has_new _ _ _
  clear hW
  have hs1 := b1.size
  have BB := Lib.hid b1; have K0 := Lib.hid k0; clear k0 b1
  go_wp2_with fail
  go_loopw [3, 4] (fun cv i wr => ∃ k : Nat, k ≤ n.st.length ∧ i = .int .i64 (k : Int) ∧ cv = .int .i64 (cntN (n.st.take k)) ∧ AllSit n k ∧ Below w1.heap.size w1 wr) (fun _ i _ => n.st.length - (intOf i).toNat)
  case atStart => exact ⟨0, Nat.zero_le _, rfl, rfl, fun k s h => by omega, Below.refl _ _⟩
  case round =>
    obtain ⟨k, hk, rfl, rfl, hall, hb⟩ := hrel
    have HALL := Lib.hid hall; clear hall
    have hsz := hb.size
    have BR := Lib.hid hb; clear hb
    by_cases hlt : k < n.st.length
    · have hkk0 : (0 : Int) ≤ (k : Int) := by omega
      have hkk1 : (k : Int) < (n.st.length : Int) := by omega
      have zB := has_cell (has_call K0.out BR.out) 11 rfl; have zl := has_lt (has_call K0.out BR.out)
      simp only [List.getElem_toArray, List.getElem_cons_succ, List.getElem_cons_zero] at zB
      go_wp2_with fail
      clear zB zl
      have hy0 := List.getElem?_eq_getElem hlt
      generalize hys : n.st[k] = y at hy0
      have HY := Lib.hid hy0; clear hys hy0
      have hbk := HP.out y (List.mem_of_getElem? HY.out)
      have HBK := Lib.hid hbk; clear hbk
      have hnb := cntN_bd (l := n.st.take k) fun s hs => HP.out s (List.mem_of_mem_take hs)
      rw [List.length_take, Nat.min_eq_left hk] at hnb
      have hst := cntN_succ HY.out
      have HST := Lib.hid hst; clear hst
      generalize cntN (n.st.take k) = cn at *
      have hk3 : k ≤ 3 := by omega
      have hvy := (HV.out.sv y (List.mem_of_getElem? HY.out))
      have HVY := Lib.hid hvy; clear hvy
      have hbl := HBK.out.1.2
      go_loopw [3, 5] (fun cv i wi => ∃ j : Nat, j ≤ y.bk.length ∧ i = .int .i64 (j : Int) ∧ cv = .int .i64 (cn + cntC (y.bk.take j)) ∧ AllCol n.pc k (y.bk.take j) ∧ Below w1.heap.size w1 wi) (fun _ i _ => y.bk.length - (intOf i).toNat)
      case atStart => exact ⟨0, Nat.zero_le _, rfl, by simp [cntC], fun c hc => by simp at hc, BR.out⟩
      case round =>
        obtain ⟨j, hj, rfl, rfl, hcol, hbi⟩ := hrel
        have HCOL := Lib.hid hcol; clear hcol
        have hszi := hbi.size
        have BI := Lib.hid hbi; clear hbi
        have hcb := cntC_bd (l := y.bk.take j) fun x hx => col_len9 (HBK.out.2.1 x (List.mem_of_mem_take hx))
        rw [List.length_take, Nat.min_eq_left hj] at hcb
        have hj6 : j ≤ 6 := by omega
        by_cases hjl : j < y.bk.length
        · have hcx := List.getElem?_eq_getElem hjl
          have hst2 := cntC_succ hcx
          have HST2 := Lib.hid hst2; clear hst2 hcx
          generalize hcc : cntC (y.bk.take j) = cc at *
          have hjj0 : (0 : Int) ≤ (j : Int) := by omega
          have hjj1 : (j : Int) < (y.bk.length : Int) := by omega
          obtain ⟨b, off, y1, hA, hbB, hy1, sc0, sc1, sc2, sc3, sc4, sc5, sc6, sc7, sc8, sc9, sc10⟩ := ((HV.out.later hB (bthen BB.out BI.out)).si).at_ hlt
          obtain rfl : y = y1 := by have := HY.out.symm.trans hy1; injection this
          clear hy1 sc0 sc1 sc3 sc4 sc5 sc6 sc7 sc8 sc9 sc10
          have zB := has_cell (has_call K0.out BI.out) 11 rfl; have zl := has_lt (has_call K0.out BI.out)
          simp only [List.getElem_toArray, List.getElem_cons_succ, List.getElem_cons_zero] at zB
          rw [hA] at zB
          obtain ⟨b3, off3, c, hA3, hbB3, hc, cc0, cc1, cc2⟩ := ((HVY.out.later hB (bthen BB.out BI.out)).kb).at_ hjl
          rw [hA3] at sc2
          have hbw : b < wr.heap.size := by omega
          have hbw3 : b3 < wr.heap.size := by omega
          have HC := Lib.hid hc; clear hc
          have hce : y.bk[j] = c := by have := List.getElem?_eq_some_iff.1 HC.out; obtain ⟨_, h⟩ := this; exact h
          rw [hce] at HST2
          have hcl := col_len9 (HBK.out.2.1 c (List.mem_of_getElem? HC.out))
          have hvc := HVY.out.cv c (List.mem_of_getElem? HC.out)
          have HVC := Lib.hid hvc; clear hvc hce hcc
          obtain ⟨z, AF, FF, cF, AB, L, cB⟩ := c
          dsimp only at cc0 cc1 cc2 hcl HST2
          go_wp2_with fail
          clear zB zl sc2 cc0 cc1 cc2
          go_loopw [3, 7] (fun cv i wm => ∃ m : Nat, m ≤ L.length ∧ i = .int .i64 (m : Int) ∧ cv = .int .i64 (cn + cc + cntX (L.take m)) ∧ AllBel n.pc k (L.take m) ∧ Below w1.heap.size w1 wm) (fun _ i _ => L.length - (intOf i).toNat)
          case atStart => exact ⟨0, Nat.zero_le _, rfl, by simp [cntX], fun c hc => by simp at hc, BI.out⟩
          case round =>
            obtain ⟨m, hm, rfl, rfl, hbel, hbm⟩ := hrel
            have HBEL := Lib.hid hbel; clear hbel
            have hszm := hbm.size
            have BM := Lib.hid hbm; clear hbm
            have hxb := cntX_bd (L.take m)
            rw [List.length_take, Nat.min_eq_left hm] at hxb
            by_cases hml : m < L.length
            · obtain ⟨b2, off2, bx, hAB, hb2B, hbx, bc0, bc1, bc2, bc3⟩ := ((HVC.out.later hB (bthen BB.out BM.out)).b).at_ hml
              dsimp only at hAB
              subst hAB
              have hst3 := cntX_succ hbx
              have HST3 := Lib.hid hst3; have HBX := Lib.hid hbx; clear hst3 hbx
              generalize cntX (L.take m) = cx at *
              have hmm0 : (0 : Int) ≤ (m : Int) := by omega
              have hmm1 : (m : Int) < (L.length : Int) := by omega
              have hbw2 : b2 < wr.heap.size := by omega
              have hpr := col_par9 (HBK.out.2.1 _ (List.mem_of_getElem? HC.out)) bx (List.mem_of_getElem? HBX.out)
              have hno := not_boxes (x := n) HY.out (List.mem_of_getElem? HC.out) (List.mem_of_getElem? HBX.out)
              have HNO := Lib.hid hno; clear hno
              have hbs := AllBel.succ HBEL.out HBX.out
              have HBS := Lib.hid hbs; clear hbs
              obtain ⟨x0, x1, x2, x3⟩ := bx
              dsimp only at bc0 bc1 bc2 bc3 hpr
              by_cases hp0 : x2 = 0
              · have e0 : (x2 == 0) = true := by simpa using hp0
                have HS0 := HST3.out
                rw [if_neg (by simpa using hp0)] at HS0
                have HS1 := Lib.hid HS0; clear HS0
                have HB1 := Lib.hid (HBS.out (fun h => absurd hp0 h)); clear hp0
                go_wp2_with fail
                go_roundw
                case rel => exact ⟨m + 1, by omega, by go_num, by rw [HS1.out, Int.add_zero], HB1.out, BM.out⟩
                case measure => simp [intOf]; omega
              have e0 : (x2 == 0) = false := by simpa using hp0
              have zB := has_cell (has_call K0.out BM.out) 12 rfl; have zl := has_lt (has_call K0.out BM.out)
              simp only [List.getElem_toArray, List.getElem_cons_succ, List.getElem_cons_zero] at zB
              by_cases hgt : (n.pc.length : Int) < x2
              · have hn1 := HNO.out hp0 (by unfold belB; simp only [inR]; simp; omega)
                have HN1 := Lib.hid hn1; clear hn1 hp0
                go_wp2_with fail
                go_ret
                exact tells_no (fun h => HN1.out h.1) (bthen BB.out BM.out)
              obtain ⟨i, hi⟩ : ∃ i : Nat, x2 = (i : Int) + 1 := ⟨(x2 - 1).toNat, by omega⟩
              have hil : i < n.pc.length := by omega
              obtain ⟨b4, off4, p, hA4, hbB4, hp, pc0, pc1, pc2, pc3, pc4, pc5, pc6, pc7, pc8, pc9, pc10, pc11, pc12⟩ := ((HV.out.later hB (bthen BB.out BM.out)).pl).at_ hil
              rw [hA4] at zB
              have hbe := bel_at (k := k) (b := ⟨x0, x1, x2, x3⟩) hi hp
              have HBE := Lib.hid hbe; clear hbe hp
              have HS0 := HST3.out
              rw [if_pos (by simpa using hp0)] at HS0
              have HS1 := Lib.hid HS0; clear HS0 HST3
              have hno2 := HNO.out hp0
              have hbs2 := HBS.out
              simp only at hno2 hbs2
              have HNO2 := Lib.hid hno2; have HBS2 := Lib.hid hbs2; clear hno2 hbs2 HNO HBS hp0
              have hbw4 : b4 < wr.heap.size := by omega
              have hii0 : (0 : Int) ≤ (i : Int) := by omega
              have hii1 : (i : Int) < (n.pc.length : Int) := by omega
              have hgt2 : ¬ (n.pc.length : Int) < (i : Int) + 1 := by omega
              subst hi
              have hsub : (i : Int) + 1 - 1 = (i : Int) := by omega
              go_upto_region 17 with fail
              clear pc0 pc1 pc2 pc3 pc4 pc5 pc6 pc7 pc8 pc9 pc10 pc11 pc12 zB zl bc0 bc2 hA4
              generalize hW5 : wr.alloc (.cells #[.int .i64 p.size, .int .i64 p.owner, .int .i64 p.site, .int .i64 p.stage, .int .i64 p.since, .int .i64 p.ext, .int .i64 p.ls, .int .i64 p.ln, .int .i64 p.lt, .int .i64 p.lp, .int .i64 p.lu, .int .i64 p.who, .int .i64 p.fee] 55) = w5
              have hb5 : Below wr.heap.size wr w5 := by rw [← hW5]; exact balloc _ _
              have k5 : Has w5 wr.heap.size 55 #[.int .i64 p.size, .int .i64 p.owner, .int .i64 p.site, .int .i64 p.stage, .int .i64 p.since, .int .i64 p.ext, .int .i64 p.ls, .int .i64 p.ln, .int .i64 p.lt, .int .i64 p.lp, .int .i64 p.lu, .int .i64 p.who, .int .i64 p.fee] := by rw [← hW5]; exact has_new _ _ _
              clear hW5
              have d1 := (bold hb5 _ _ hbw2).trans bc1; have d3 := (bold hb5 _ _ hbw2).trans bc3; clear bc1 bc3
              have r0 := has_cell k5 0 rfl; have r2 := has_cell k5 2 rfl; have r3 := has_cell k5 3 rfl; have rl := has_lt k5
              simp only [List.getElem_toArray, List.getElem_cons_succ, List.getElem_cons_zero] at r0 r2 r3
              have B5 := Lib.hid (bthen BM.out hb5); have hsz5 := hb5.size
              have hbw5 : b2 < w5.heap.size := by omega
              have B6 := Lib.hid (fun n => bthen BB.out (below_drewN B5.out n)); clear hb5 k5
              have hw9 : IntKind.i64.wrap (cn + cc + cx + 1) = cn + cc + cx + 1 := IntWalk.i64_in _ (by omega)
              cases f1 : (p.site != (k : Int))
              rotate_left
              · have f1g : (p.site == (k : Int)) = false := by simpa using f1
                go_quiet (fail)
                go_wp2_with fail
                go_ret
                exact tells_no (fun h => HNO2.out (by rw [HBE.out, f1g]; simp) h.1) (B6.out _)
              have f1g : (p.site == (k : Int)) = true := by simpa using f1
              cases f2 : (p.size != x1)
              rotate_left
              · have f2g : (p.size == x1) = false := by simpa using f2
                go_quiet (fail)
                go_wp2_with fail
                go_ret
                exact tells_no (fun h => HNO2.out (by rw [HBE.out, f2g]; simp) h.1) (B6.out _)
              have f2g : (p.size == x1) = true := by simpa using f2
              cases f3 : (p.stage == 2)
              · have f3n : (p.stage != 2) = true := by simpa using f3
                cases f4 : (p.stage == 3)
                · have f4n : (p.stage != 3) = true := by simpa using f4
                  go_quiet (fail)
                  go_wp2_with fail
                  go_ret
                  exact tells_no (fun h => HNO2.out (by rw [HBE.out]; unfold keptB; rw [f3, f4]; rfl) h.1) (B6.out _)
                · have f4n : (p.stage != 3) = false := by simpa using f4
                  have HY9 := Lib.hid (HBS2.out (fun _ => by rw [HBE.out, f1g, f2g]; unfold keptB; rw [f3]; simp [f4]))
                  go_quiet (fail)
                  go_wp2_with fail
                  try rw [hw9]
                  go_roundw
                  case rel => exact ⟨m + 1, by omega, by go_num, by rw [HS1.out, ← Int.add_assoc], HY9.out, below_drewN B5.out _⟩
                  case measure => simp [intOf]; omega
              · have f3n : (p.stage != 2) = false := by simpa using f3
                cases x3
                · skip
                  have HY9 := Lib.hid (HBS2.out (fun _ => by rw [HBE.out, f1g, f2g]; unfold keptB; rw [f3]; simp [f3]))
                  go_quiet (fail)
                  go_wp2_with fail
                  try rw [hw9]
                  go_roundw
                  case rel => exact ⟨m + 1, by omega, by go_num, by rw [HS1.out, ← Int.add_assoc], HY9.out, below_drewN B5.out _⟩
                  case measure => simp [intOf]; omega
                · go_quiet (fail)
                  go_wp2_with fail
                  go_ret
                  exact tells_no (fun h => HNO2.out (by rw [HBE.out, f3]; simp) h.1) (B6.out _)
            · have hmL : m = L.length := by omega
              subst hmL
              have hb9 := HBEL.out
              rw [List.take_length] at hb9
              have HB9 := Lib.hid (HCOL.out.succ HC.out hb9); clear hb9
              have hmk : ¬ (L.length : Int) < (L.length : Int) := by omega
              rw [List.take_length] at hxb ⊢
              go_wp2_with fail
              go_roundw
              case rel => exact ⟨j + 1, by omega, by go_num, by rw [HST2.out, Int.add_assoc], HB9.out, BM.out⟩
              case measure => simp [intOf]; omega
        · have hjL : j = y.bk.length := by omega
          subst hjL
          obtain ⟨b, off, y1, hA, hbB, hy1, sc0, sc1, sc2, sc3, sc4, sc5, sc6, sc7, sc8, sc9, sc10⟩ := ((HV.out.later hB (bthen BB.out BI.out)).si).at_ hlt
          obtain rfl : y = y1 := by have := HY.out.symm.trans hy1; injection this
          clear hy1 sc0 sc1 sc3 sc4 sc5 sc6 sc7 sc8 sc9 sc10
          have zB := has_cell (has_call K0.out BI.out) 11 rfl; have zl := has_lt (has_call K0.out BI.out)
          simp only [List.getElem_toArray, List.getElem_cons_succ, List.getElem_cons_zero] at zB
          rw [hA] at zB
          have hb9 := HCOL.out
          rw [List.take_length] at hb9
          have HB9 := Lib.hid (HALL.out.succ HY.out hb9); clear hb9
          have hmk : ¬ (y.bk.length : Int) < (y.bk.length : Int) := by omega
          rw [List.take_length] at hcb ⊢
          have hbw : b < wr.heap.size := by omega
          go_wp2_with fail
          go_roundw
          case rel => exact ⟨k + 1, by omega, by go_num, by rw [HST.out], HB9.out, BI.out⟩
          case measure => simp [intOf]; omega
    · have hkl : k = n.st.length := by omega
      subst hkl
      have hb9 := HALL.out.all
      have HB9 := Lib.hid hb9; clear hb9 HALL
      have hnb := cntN_bd HP.out
      rw [List.take_length]
      have zB := has_cell (has_call K0.out BR.out) 11 rfl; have zl := has_lt (has_call K0.out BR.out)
      simp only [List.getElem_toArray, List.getElem_cons_succ, List.getElem_cons_zero] at zB
      have hmk : ¬ (n.st.length : Int) < (n.st.length : Int) := by omega
      go_wp2_with fail
      clear zB zl
      generalize hcn : cntN n.st = cn at *
      have HCN := Lib.hid hcn; clear hcn
      go_loopw [3, 10] (fun cv i wi => ∃ q : Nat, q ≤ n.pc.length ∧ i = .int .i64 (q : Int) ∧ cv = .int .i64 (cn - kepN (n.pc.take q)) ∧ Below w1.heap.size w1 wi) (fun _ i _ => n.pc.length - (intOf i).toNat)
      case atStart => exact ⟨0, Nat.zero_le _, rfl, by simp [kepN], BR.out⟩
      case round =>
        obtain ⟨q, hq, rfl, rfl, hbq⟩ := hrel
        have hszq := hbq.size
        have BQ := Lib.hid hbq; clear hbq
        have zB := has_cell (has_call K0.out BQ.out) 12 rfl; have zl := has_lt (has_call K0.out BQ.out)
        simp only [List.getElem_toArray, List.getElem_cons_succ, List.getElem_cons_zero] at zB
        have hkb := kepN_bd (n.pc.take q)
        rw [List.length_take, Nat.min_eq_left hq] at hkb
        by_cases hql : q < n.pc.length
        · obtain ⟨b4, off4, p, hA4, hbB4, hp, pc0, pc1, pc2, pc3, pc4, pc5, pc6, pc7, pc8, pc9, pc10, pc11, pc12⟩ := ((HV.out.later hB (bthen BB.out BQ.out)).pl).at_ hql
          rw [hA4] at zB
          have hst := kepN_succ hp
          have HST9 := Lib.hid hst; clear hst hp hA4
          generalize kepN (n.pc.take q) = kn at *
          have hqq0 : (0 : Int) ≤ (q : Int) := by omega
          have hqq1 : (q : Int) < (n.pc.length : Int) := by omega
          have hbw4 : b4 < wr.heap.size := by omega
          have hw9 : IntKind.i64.wrap (cn - kn - 1) = cn - kn - 1 := IntWalk.i64_in _ (by omega)
          cases f3 : (p.stage == 2)
          · cases f4 : (p.stage == 3)
            · have hk9 : keptB p = false := by unfold keptB; rw [f3, f4]; rfl
              have HS := HST9.out
              rw [if_neg (by simp [hk9])] at HS
              have HS9 := Lib.hid HS; clear HS hk9
              go_wp2_with fail
              go_roundw
              case rel => exact ⟨q + 1, by omega, by go_num, by rw [HS9.out, Int.add_zero], BQ.out⟩
              case measure => simp [intOf]; omega
            · have hk9 : keptB p = true := by unfold keptB; rw [f3, f4]; rfl
              have HS := HST9.out
              rw [if_pos hk9] at HS
              have HS9 := Lib.hid HS; clear HS hk9
              go_wp2_with fail
              try rw [hw9]
              go_roundw
              case rel => exact ⟨q + 1, by omega, by go_num, by rw [HS9.out, Int.sub_sub], BQ.out⟩
              case measure => simp [intOf]; omega
          · have hk9 : keptB p = true := by unfold keptB; rw [f3]; rfl
            have HS := HST9.out
            rw [if_pos hk9] at HS
            have HS9 := Lib.hid HS; clear HS hk9
            go_wp2_with fail
            try rw [hw9]
            go_roundw
            case rel => exact ⟨q + 1, by omega, by go_num, by rw [HS9.out, Int.sub_sub], BQ.out⟩
            case measure => simp [intOf]; omega
        · have hqL : q = n.pc.length := by omega
          subst hqL
          rw [List.take_length]
          rw [List.take_length] at hkb
          generalize hkn : kepN n.pc = kn at *
          have HKN := Lib.hid hkn; clear hkn
          have hmk : ¬ (n.pc.length : Int) < (n.pc.length : Int) := by omega
          cases hz : (cn - kn == 0)
          · go_wp2_with fail
            go_ret
            exact tells_no (fun h => by have h2 := h.2; rw [beq_eq_false_iff_ne] at hz; omega) (bthen BB.out BQ.out)
          · go_wp2_with fail
            go_ret
            exact tells_yes ⟨HB9.out, by rw [beq_iff_eq] at hz; omega⟩ (bthen BB.out BQ.out)
end Go.Proofs.YtjpkpfmpjgeeiaaGreat
