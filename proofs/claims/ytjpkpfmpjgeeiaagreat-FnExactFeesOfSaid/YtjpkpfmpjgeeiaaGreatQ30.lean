
/- Chapter 5: contracts of GrantsOk, both sides (gen_grb.py). -/
import Derived.Test.YtjpkpfmpjgeeiaaGreatQ27
import Derived.Test.YtjpkpfmpjgeeiaaGreatQ26
import Derived.Test.YtjpkpfmpjgeeiaaGreatQ12
import Derived.Test.YtjpkpfmpjgeeiaaGreatQ29
import Derived.Test.YtjpkpfmpjgeeiaaGreatQ17
import Derived.Deep.QuietTactic
import Derived.BigQuiet
import Derived.Deep.RegionHeld3
namespace Go.Proofs.YtjpkpfmpjgeeiaaGreat
open Go.RowKit
set_option linter.unusedVariables false
theorem grants_long {l : List Gr} (h : 30 < l.length) : grantsB l = false := by unfold grantsB; rw [decide_eq_false (by omega)]; rfl
theorem grants_bad {l : List Gr} {k : Nat} {x : Gr} (hx : l[k]? = some x) (h : grantB x = false) : grantsB l = false := by
  have : l.all grantB = false := by rw [List.all_eq_false]; exact ⟨x, List.mem_of_getElem? hx, by simp [h]⟩
  unfold grantsB; rw [this]; simp
theorem grants_all {l : List Gr} (h : l.length ≤ 30) (h2 : (l.take l.length).all grantB = true) : grantsB l = true := by
  rw [List.take_length] at h2; unfold grantsB; rw [decide_eq_true h, h2]; rfl
theorem all_snoc {l : List Gr} {k : Nat} {x : Gr} (hx : l[k]? = some x) (h : (l.take k).all grantB = true) (hg : grantB x = true) : (l.take (k + 1)).all grantB = true := by
  rw [List.take_add_one, hx]; simp only [Option.toList_some, List.all_append, h, List.all_cons, hg, List.all_nil, Bool.and_self]
set_option maxRecDepth 100000 in
set_option maxHeartbeats 2000000 in
theorem grantsI_any (w : World) (B : Nat) (A : Option Addr) (c : Nat) (l : List Gr) (hl : l.length ≤ maxLen) (hB : B ≤ w.heap.size) (hS : grL w B A l) :
    Calls Tryz.prog 77 #[.slice A l.length c] w fun e w' => e = .returned (.bool (grantsB l)) ∧ Below w.heap.size w w' := by
  unfold maxLen at hl
  by_cases h30 : 30 < l.length
  · go_enter Tryz.func77, Tryz.ntmps77
    go_wp2
    go_ret
    exact ⟨rbool (grants_long h30).symm, Below.refl _ _⟩
  go_enter Tryz.func77, Tryz.ntmps77
  go_wp2
  go_loopw [10] (fun i wr => ∃ k : Nat, k ≤ l.length ∧ i = .int .i64 k ∧ (l.take k).all grantB = true ∧ Below w.heap.size w wr) (fun i _ => l.length - (intOf i).toNat)
  case atStart => exact ⟨0, Nat.zero_le _, rfl, rfl, Below.refl _ _⟩
  case round =>
    obtain ⟨k, hk, rfl, hno, hb⟩ := hrel
    have Hno := Lib.hid hno; clear hno
    by_cases hlt : k < l.length
    · obtain ⟨b, off, ⟨x0, x1, x2, x3, x4, x5, x6⟩, rfl, hbB, hx, hc0, hc1, hc2, hc3, hc4, hc5, hc6⟩ := (hS.below (hb.mono hB)).at_ hlt
      dsimp only at hc0 hc1 hc2 hc3 hc4 hc5 hc6
      have Hx := Lib.hid hx; clear hx
      have HS := Lib.hid hS; clear hS
      have hsz := hb.size
      cases hq : grantB ⟨x0, x1, x2, x3, x4, x5, x6⟩
      · have HQ := Lib.hid hq; clear hq
        go_wp2_with (go_at_call 110; refine (grantI_any _ x0 x1 x2 x3 x4 x5 x6).mono ?_; rintro e w1 ⟨rfl, hb1⟩; rw [HQ.out])
        go_ret
        exact ⟨rbool (grants_bad Hx.out HQ.out).symm, (hb.alloc hsz _).trans (hb1.mono (by simp; omega))⟩
      · have HQ := Lib.hid hq; clear hq
        go_wp2_with (go_at_call 110; refine (grantI_any _ x0 x1 x2 x3 x4 x5 x6).mono ?_; rintro e w1 ⟨rfl, hb1⟩; rw [HQ.out])
        go_roundw
        case rel => exact ⟨k + 1, by omega, by go_num, all_snoc Hx.out Hno.out HQ.out, (hb.alloc hsz _).trans (hb1.mono (by simp; omega))⟩
        case measure => simp [intOf]; omega
    · go_wp2
      go_ret
      have hkl : k = l.length := by omega
      subst hkl
      exact ⟨rbool (grants_all (by omega) Hno.out).symm, hb⟩
set_option maxRecDepth 100000 in
set_option maxHeartbeats 2000000 in
theorem grantsS_any (w : World) (B : Nat) (A : Option Addr) (c : Nat) (l : List Gr) (hl : l.length ≤ maxLen) (hB : B ≤ w.heap.size) (hS : grL w B A l) :
    Calls Tryz.prog 35 #[.slice A l.length c] w fun e w' => e = .returned (.bool (grantsB l)) ∧ Below w.heap.size w w' := by
  unfold maxLen at hl
  by_cases h30 : 30 < l.length
  · go_enter Tryz.func35, Tryz.ntmps35
    go_wp2
    go_ret
    exact ⟨rbool (grants_long h30).symm, Below.refl _ _⟩
  go_enter Tryz.func35, Tryz.ntmps35
  go_wp2
  go_loopw [3] (fun i wr => ∃ k : Nat, k ≤ l.length ∧ i = .int .i64 k ∧ (l.take k).all grantB = true ∧ Below w.heap.size w wr) (fun i _ => l.length - (intOf i).toNat)
  case atStart => exact ⟨0, Nat.zero_le _, rfl, rfl, Below.refl _ _⟩
  case round =>
    obtain ⟨k, hk, rfl, hno, hb⟩ := hrel
    have Hno := Lib.hid hno; clear hno
    by_cases hlt : k < l.length
    · obtain ⟨b, off, ⟨x0, x1, x2, x3, x4, x5, x6⟩, rfl, hbB, hx, hc0, hc1, hc2, hc3, hc4, hc5, hc6⟩ := (hS.below (hb.mono hB)).at_ hlt
      dsimp only at hc0 hc1 hc2 hc3 hc4 hc5 hc6
      have Hx := Lib.hid hx; clear hx
      have HS := Lib.hid hS; clear hS
      have hsz := hb.size
      cases hq : grantB ⟨x0, x1, x2, x3, x4, x5, x6⟩
      · have HQ := Lib.hid hq; clear hq
        go_wp2_with (go_at_call 60; refine (grantS_any _ x0 x1 x2 x3 x4 x5 x6).mono ?_; rintro e w1 ⟨rfl, hb1⟩; rw [HQ.out])
        go_ret
        exact ⟨rbool (grants_bad Hx.out HQ.out).symm, hb.trans (hb1.mono hsz)⟩
      · have HQ := Lib.hid hq; clear hq
        go_wp2_with (go_at_call 60; refine (grantS_any _ x0 x1 x2 x3 x4 x5 x6).mono ?_; rintro e w1 ⟨rfl, hb1⟩; rw [HQ.out])
        go_roundw
        case rel => exact ⟨k + 1, by omega, by go_num, all_snoc Hx.out Hno.out HQ.out, hb.trans (hb1.mono hsz)⟩
        case measure => simp [intOf]; omega
    · go_wp2
      go_ret
      have hkl : k = l.length := by omega
      subst hkl
      exact ⟨rbool (grants_all (by omega) Hno.out).symm, hb⟩
end Go.Proofs.YtjpkpfmpjgeeiaaGreat
namespace Go.Proofs.YtjpkpfmpjgeeiaaGreat
open Go.RowKit
set_option linter.unusedVariables false
set_option maxRecDepth 100000

def kindAt (S : List Sit) (i : Int) : Int := match S[i.toNat]? with | some s => s.dk | none => 0
def parAt (S : List Sit) (i : Int) : Int := match S[i.toNat]? with | some s => s.par | none => 0
def bankAt (S : List Sit) (i : Int) : List Cl := match S[i.toNat]? with | some s => s.bk | none => []
/-- the parcel was not placed yet -/
def unplB (S : List Sit) (p : Pc) : Bool := p.stage == 0 || p.stage == 1 || (p.stage == 2 && kindAt S p.site == 1)
def keptB (p : Pc) : Bool := p.stage == 2 || p.stage == 3
def frameB (x : Net) : Bool := termsB x.tm && inR x.room 0 1000 && secB x.secret && inR x.now 0 20000 && (decide (1 ≤ x.st.length) && decide (x.st.length ≤ 3)) && decide (x.pc.length ≤ 12) && grantsB x.gr && jrnB x.jr
def pcAt (P : List Pc) (i : Int) : Pc := match P[(i - 1).toNat]? with | some p => p | none => ⟨0, 0, 0, 0, 0, 0, 0, 0, 0, 0, 0, 0, 0⟩
def workB (P : List Pc) (k : Nat) (s : Sit) : Bool :=
  if s.par = 0 then s.dk == 0 && s.ds == 0 && !s.dl && !s.dp && !s.df && s.who == 0
  else inR s.par 1 P.length && (pcAt P s.par).site == (k : Int) && (pcAt P s.par).stage == 2 && ((s.dk == 1 && s.who == 0) || (s.dk == 2 && inR s.who 0 40))
def SiteP (P : List Pc) (k : Nat) (s : Sit) : Prop := weekB s.o s.q = true ∧ BankP s.bk ∧ doorB s.dk s.ds s.dl s.dp s.df = true ∧ jrnB s.jr = true ∧ workB P k s = true
/-- what a parcel has is as its stage says -/
def stayB (x : Net) (i : Nat) (p : Pc) : Bool :=
  if unplB x.st p = true then p.since == 0 && p.ext == 0 && p.ls == 0 && p.ln == 0 && p.lt == 0 && p.lp == 0 && p.lu == 0 && p.who == 0 && p.fee == 0
  else inR p.since 0 x.now && inR p.ext 0 x.tm.most && lockB p.ls p.ln p.lt p.lp p.lu && p.ls == secV x.secret ((i : Int) + 1) && (if p.stage = 4 then perB p.who && inR p.fee 0 (x.tm.cap + x.tm.price * x.tm.most) else p.who == 0 && p.fee == 0)
def parB (x : Net) (i : Nat) (p : Pc) : Bool :=
  inR p.size 1 24 && perB p.owner && (decide (0 ≤ p.site) && decide (p.site < x.st.length)) && inR p.stage 0 5 && (!(p.stage == 2) || parAt x.st p.site == (i : Int) + 1) && stayB x i p
def belB (P : List Pc) (k : Nat) (b : Bx) : Bool :=
  inR b.par 1 P.length && keptB (pcAt P b.par) && (pcAt P b.par).site == (k : Int) && (pcAt P b.par).size == b.size && !((pcAt P b.par).stage == 2 && b.jam)
/-- the boxes have parcels that belong in them -/
def BoxesB (x : Net) : Prop := ∀ (k : Nat) (s : Sit), x.st[k]? = some s → ∀ c ∈ s.bk, ∀ b ∈ c.L, b.par ≠ 0 → belB x.pc k b = true
def KeptP (x : Net) : Prop := ∀ (i : Nat) (p : Pc), x.pc[i]? = some p → keptB p = true → 0 ≤ gIdx (hasC ((i : Int) + 1)) (bankAt x.st p.site) 0
def loadL (S : List Sit) (P : List Pc) : Int := (P.map fun p => if (!(p.stage == 0) && unplB S p) = true then p.size else 0).sum
structure NetP (x : Net) : Prop where
  frame : frameB x = true
  sites : ∀ (k : Nat) (s : Sit), x.st[k]? = some s → SiteP x.pc k s
  pars : ∀ (i : Nat) (p : Pc), x.pc[i]? = some p → parB x i p = true
  boxes : BoxesB x
  kept : KeptP x
  load : loadL x.st x.pc ≤ x.room
theorem kindAt_eq {S : List Sit} {k : Nat} {s : Sit} (h : S[k]? = some s) : kindAt S (k : Int) = s.dk := by unfold kindAt; rw [Int.toNat_natCast, h]
theorem parAt_eq {S : List Sit} {k : Nat} {s : Sit} (h : S[k]? = some s) : parAt S (k : Int) = s.par := by unfold parAt; rw [Int.toNat_natCast, h]
theorem bankAt_eq {S : List Sit} {k : Nat} {s : Sit} (h : S[k]? = some s) : bankAt S (k : Int) = s.bk := by unfold bankAt; rw [Int.toNat_natCast, h]
theorem pcAt_eq {P : List Pc} {k : Nat} {p : Pc} (h : P[k]? = some p) : pcAt P ((k : Int) + 1) = p := by unfold pcAt; rw [Int.add_sub_cancel, Int.toNat_natCast, h]
theorem load_succ {S : List Sit} {P : List Pc} {k : Nat} {p : Pc} (h : P[k]? = some p) : loadL S (P.take (k + 1)) = loadL S (P.take k) + (if (!(p.stage == 0) && unplB S p) = true then p.size else 0) := by
  unfold loadL; rw [List.take_add_one, h]; simp
theorem load_bd {S : List Sit} {P : List Pc} (h : ∀ p ∈ P, 0 ≤ p.size ∧ p.size ≤ 24) : ∀ k, 0 ≤ loadL S (P.take k) ∧ loadL S (P.take k) ≤ 24 * (k : Int)
  | 0 => by simp [loadL]
  | k + 1 => by
    have ih := load_bd (S := S) h k
    by_cases hk : k < P.length
    · have hx := List.getElem?_eq_getElem hk
      have := h _ (List.getElem_mem hk)
      rw [load_succ hx]
      push_cast
      split <;> omega
    · rw [List.take_of_length_le (by omega)] at ih ⊢
      push_cast; omega
/-- the cells of a network, in a block at an offset -/
def ntC (x : Net) : List Value := [.int .i64 x.tm.keep, .int .i64 x.tm.free, .int .i64 x.tm.step, .int .i64 x.tm.rate, .int .i64 x.tm.cap, .int .i64 x.tm.longer, .int .i64 x.tm.price, .int .i64 x.tm.most, .int .i64 x.room, .int .i64 x.secret, .int .i64 x.now, .slice x.AS x.st.length x.cS, .slice x.AP x.pc.length x.cP, .slice x.AG x.gr.length x.cG, .slice x.AJ x.jr.length x.cJ]
structure NetIn (w : World) (g o : Nat) (x : Net) : Prop where
  c : ∀ i v, (ntC x)[i]? = some v → w.cell? ⟨g, o + i, none⟩ = some v
  lt : g < w.heap.size
theorem NetIn.later {w w' : World} {g o : Nat} {x : Net} (h : NetIn w g o x) (hb : Below w.heap.size w w') : NetIn w' g o x :=
  ⟨fun i v hv => (hb.cell (p := ⟨g, o + i, none⟩) h.lt).trans (h.c i v hv), Nat.lt_of_lt_of_le h.lt hb.size⟩
end Go.Proofs.YtjpkpfmpjgeeiaaGreat
namespace Go.Proofs.YtjpkpfmpjgeeiaaGreat
open Go.RowKit
set_option linter.unusedVariables false

theorem col_par9 {z : Int} {F : List Int} {L : List Bx} (h : ColOk z F L) : ∀ b ∈ L, 0 ≤ b.par ∧ b.par ≤ 999 := fun b hb => by
  obtain ⟨k, hk⟩ := List.getElem?_of_mem hb
  have := h.box k b (List.getElem?_eq_some_iff.1 hk).1 hk
  exact ⟨this.2.2.1, this.2.2.2⟩
theorem dis_nodup9 (P : List Int) : Dis P ↔ (P.filter fun a => decide (0 < a)).Nodup := by
  unfold Dis
  rw [List.nodup_iff_pairwise_ne, List.pairwise_filter]
  constructor
  · intro h; exact h.imp fun hab _ hb => hab (by simpa using hb)
  · intro h
    refine h.imp fun {a b} hab hb e => ?_
    subst e
    exact hab (by simpa using hb) (by simpa using hb) rfl
theorem fIdx_no9 {q : Bx → Bool} {L : List Bx} (h : fIdx q L 0 < 0) : ∀ b ∈ L, q b = false := by
  rcases fIdx_cases q L 0 with ⟨_, h2⟩ | ⟨j, x, h1, _, _⟩
  · exact h2
  · omega
theorem nodup_sub_len : ∀ {A K : List Int}, A.Nodup → (∀ a ∈ A, a ∈ K) → A.length ≤ K.length
  | [], K, _, _ => Nat.zero_le _
  | a :: r, K, h, hs => by
    rw [List.nodup_cons] at h
    have ha := hs a List.mem_cons_self
    have ih := nodup_sub_len (A := r) (K := K.erase a) h.2 fun b hb => by
      have hne : b ≠ a := fun e => h.1 (e ▸ hb)
      rw [List.mem_erase_of_ne hne]; exact hs b (List.mem_cons_of_mem _ hb)
    have hl := List.length_erase_of_mem ha
    have hp : 0 < K.length := List.length_pos_of_mem ha
    simp only [List.length_cons]; omega
def cntX (L : List Bx) : Int := ((L.filter fun b => b.par != 0).length : Nat)
def cntC (bk : List Cl) : Int := (bk.map fun c => cntX c.L).sum
def cntN (S : List Sit) : Int := (S.map fun s => cntC s.bk).sum
theorem cntX_succ {L : List Bx} {k : Nat} {b : Bx} (h : L[k]? = some b) : cntX (L.take (k + 1)) = cntX (L.take k) + (if (b.par != 0) = true then 1 else 0) := by
  unfold cntX
  rw [List.take_add_one, h, Option.toList_some, List.filter_append, List.length_append]
  cases hb : b.par != 0
  · rw [List.filter_cons_of_neg (by simp [hb])]; simp
  · rw [List.filter_cons_of_pos (by simp [hb])]; simp
theorem cntC_succ {l : List Cl} {k : Nat} {c : Cl} (h : l[k]? = some c) : cntC (l.take (k + 1)) = cntC (l.take k) + cntX c.L := by
  unfold cntC; rw [List.take_add_one, h]; simp
theorem cntN_succ {l : List Sit} {k : Nat} {c : Sit} (h : l[k]? = some c) : cntN (l.take (k + 1)) = cntN (l.take k) + cntC c.bk := by
  unfold cntN; rw [List.take_add_one, h]; simp
def kepN (P : List Pc) : Int := ((P.filter keptB).length : Nat)
theorem kepN_succ {P : List Pc} {k : Nat} {p : Pc} (h : P[k]? = some p) : kepN (P.take (k + 1)) = kepN (P.take k) + (if keptB p = true then 1 else 0) := by
  unfold kepN
  rw [List.take_add_one, h, Option.toList_some, List.filter_append, List.length_append]
  cases hb : keptB p
  · rw [List.filter_cons_of_neg (by simp [hb])]; simp
  · rw [List.filter_cons_of_pos (by simp [hb])]; simp
/-- the parcels in the boxes of a site -/
def siteA (s : Sit) : List Int := (allPars s.bk).filter fun a => decide (0 < a)
def allA (S : List Sit) : List Int := S.flatMap siteA
theorem cntX_len {L : List Bx} (h : ∀ b ∈ L, 0 ≤ b.par) : cntX L = (((L.map Bx.par).filter fun a => decide (0 < a)).length : Nat) := by
  unfold cntX
  congr 1
  rw [List.filter_map, List.length_map]
  congr 1
  refine List.filter_congr fun b hb => ?_
  have := h b hb
  by_cases e : b.par = 0
  · simp [e]
  · have h1 : (b.par != 0) = true := by simpa using e
    have h2 : decide (0 < b.par) = true := decide_eq_true (by omega)
    simp only [Function.comp, h1, h2]
theorem cntC_len : ∀ {l : List Cl}, (∀ c ∈ l, ∀ b ∈ c.L, 0 ≤ b.par) → cntC l = (((allPars l).filter fun a => decide (0 < a)).length : Nat)
  | [], _ => rfl
  | c :: r, h => by
    have e1 : allPars (c :: r) = c.L.map Bx.par ++ allPars r := rfl
    have e2 : cntC (c :: r) = cntX c.L + cntC r := by simp [cntC]
    rw [e1, e2, List.filter_append, List.length_append, cntX_len (h c List.mem_cons_self), cntC_len fun d hd => h d (List.mem_cons_of_mem _ hd)]
    push_cast; rfl
theorem cntN_len : ∀ {S : List Sit}, (∀ s ∈ S, ∀ c ∈ s.bk, ∀ b ∈ c.L, 0 ≤ b.par) → cntN S = ((allA S).length : Nat)
  | [], _ => rfl
  | s :: r, h => by
    have e1 : allA (s :: r) = siteA s ++ allA r := rfl
    have e2 : cntN (s :: r) = cntC s.bk + cntN r := by simp [cntN]
    rw [e1, e2, List.length_append, cntC_len (h s List.mem_cons_self), cntN_len fun d hd => h d (List.mem_cons_of_mem _ hd)]
    push_cast; rfl
theorem mem_siteA {s : Sit} {a : Int} : a ∈ siteA s ↔ 0 < a ∧ ∃ c ∈ s.bk, ∃ b ∈ c.L, b.par = a := by
  unfold siteA
  rw [List.mem_filter]
  constructor
  · rintro ⟨h, h0⟩
    obtain ⟨c, hc, hm⟩ := List.mem_flatMap.1 h
    obtain ⟨b, hb, e⟩ := List.mem_map.1 hm
    exact ⟨by simpa using h0, c, hc, b, hb, e⟩
  · rintro ⟨h0, c, hc, b, hb, e⟩
    exact ⟨List.mem_flatMap.2 ⟨c, hc, List.mem_map.2 ⟨b, hb, e⟩⟩, by simpa using h0⟩
theorem kept_has {p : Int} {bk : List Cl} : 0 ≤ gIdx (hasC p) bk 0 ↔ ∃ c ∈ bk, ∃ b ∈ c.L, b.par = p := by
  rcases gIdx_cases (hasC p) bk 0 with ⟨h1, h2⟩ | ⟨j, x, h1, h2, h3⟩
  · constructor
    · intro h; omega
    · rintro ⟨c, hc, b, hb, e⟩
      have h3 := h2 c hc
      simp only [hasC, decide_eq_false_iff_not] at h3
      have := fIdx_no9 (by omega : fIdx (hasP p) c.L 0 < 0) b hb
      simp [hasP, e] at this
  · constructor
    · intro _
      simp only [hasC, decide_eq_true_eq] at h3
      obtain ⟨i, b, _, h5, h6⟩ := fIdx_lt h3
      exact ⟨x, List.mem_of_getElem? h2, b, List.mem_of_getElem? h5, by simpa [hasP] using h6⟩
    · intro _; omega
theorem bel_facts {P : List Pc} {k : Nat} {b : Bx} (h : belB P k b = true) : ∃ (i : Nat) (p : Pc), b.par = (i : Int) + 1 ∧ P[i]? = some p ∧ keptB p = true ∧ p.site = (k : Int) := by
  unfold belB at h
  simp only [Bool.and_eq_true] at h
  obtain ⟨⟨⟨⟨h1, h2⟩, h3⟩, _⟩, _⟩ := h
  have hr := inR_iff.1 h1
  obtain ⟨i, hi⟩ : ∃ i : Nat, b.par = (i : Int) + 1 := ⟨(b.par - 1).toNat, by omega⟩
  have hil : i < P.length := by omega
  have hp := List.getElem?_eq_getElem hil
  rw [hi, pcAt_eq hp] at h2 h3
  exact ⟨i, _, hi, hp, h2, by simpa using h3⟩
theorem kept_count {x : Net} (hb : ∀ s ∈ x.st, BankP s.bk) (hs : ∀ p ∈ x.pc, 0 ≤ p.site ∧ p.site < x.st.length) (hx : BoxesB x) : KeptP x ↔ cntN x.st = kepN x.pc := by
  have hpar : ∀ s ∈ x.st, ∀ c ∈ s.bk, ∀ b ∈ c.L, 0 ≤ b.par := fun s h c hc b hb' => (col_par9 ((hb s h).2.1 c hc) b hb').1
  rw [cntN_len hpar]
  obtain ⟨K, hK⟩ : ∃ K : List Int, K = ((List.range x.pc.length).filter fun i => match x.pc[i]? with | some p => keptB p | none => false).map fun i : Nat => (i : Int) + 1 := ⟨_, rfl⟩
  have hKn : K.Nodup := by
    rw [hK]
    refine List.Pairwise.map _ (fun a b h => ?_) (List.Pairwise.filter _ List.nodup_range)
    intro e; exact h (by omega)
  have hKm : ∀ a, a ∈ K ↔ ∃ (i : Nat) (p : Pc), a = (i : Int) + 1 ∧ x.pc[i]? = some p ∧ keptB p = true := fun a => by
    rw [hK, List.mem_map]
    constructor
    · rintro ⟨i, hi, rfl⟩
      obtain ⟨h1, h2⟩ := List.mem_filter.1 hi
      cases e : x.pc[i]? with
      | none => simp [e] at h2
      | some p => exact ⟨i, p, rfl, e, by simpa [e] using h2⟩
    · rintro ⟨i, p, rfl, hp, hk⟩
      exact ⟨i, List.mem_filter.2 ⟨List.mem_range.2 (List.getElem?_eq_some_iff.1 hp).1, by simp [hp, hk]⟩, rfl⟩
  have hKl : kepN x.pc = (K.length : Nat) := by
    have key : ∀ n, n ≤ x.pc.length → kepN (x.pc.take n) = (((List.range n).filter fun i => match x.pc[i]? with | some p => keptB p | none => false).length : Nat) := by
      intro n
      induction n with
      | zero => intro _; rfl
      | succ n ih =>
        intro hn
        have hp := List.getElem?_eq_getElem (show n < x.pc.length by omega)
        rw [kepN_succ hp, ih (by omega), List.range_succ, List.filter_append, List.length_append]
        cases hk : keptB x.pc[n]
        · rw [List.filter_cons_of_neg (by simp [hp, hk])]; simp
        · rw [List.filter_cons_of_pos (by simp [hp, hk])]; simp
    have := key x.pc.length (Nat.le_refl _)
    rw [List.take_length] at this
    rw [this, hK, List.length_map]
  have hAm : ∀ a, a ∈ allA x.st ↔ ∃ (k : Nat) (s : Sit), x.st[k]? = some s ∧ a ∈ siteA s := fun a => by
    unfold allA
    rw [List.mem_flatMap]
    constructor
    · rintro ⟨s, h1, h2⟩; obtain ⟨k, hk⟩ := List.getElem?_of_mem h1; exact ⟨k, s, hk, h2⟩
    · rintro ⟨k, s, h1, h2⟩; exact ⟨s, List.mem_of_getElem? h1, h2⟩
  have hin : ∀ (k : Nat) (s : Sit) (a : Int), x.st[k]? = some s → a ∈ siteA s → ∃ (i : Nat) (p : Pc), a = (i : Int) + 1 ∧ x.pc[i]? = some p ∧ keptB p = true ∧ p.site = (k : Int) := fun k s a hk ha => by
    obtain ⟨h0, c, hc, b, hb', rfl⟩ := mem_siteA.1 ha
    exact bel_facts (hx k s hk c hc b hb' (by omega))
  have hAn : (allA x.st).Nodup := by
    unfold allA List.Nodup
    rw [List.pairwise_flatMap]
    refine ⟨fun s h => (dis_nodup9 _).1 (hb s h).2.2, ?_⟩
    rw [List.pairwise_iff_getElem]
    intro i j hi hj hij a ha b hb' e
    subst e
    obtain ⟨i1, p1, e1, q1, _, r1⟩ := hin i _ a (List.getElem?_eq_getElem hi) ha
    obtain ⟨i2, p2, e2, q2, _, r2⟩ := hin j _ a (List.getElem?_eq_getElem hj) hb'
    have : i1 = i2 := by omega
    subst this
    rw [q1] at q2; injection q2 with q2; subst q2
    omega
  have hAK : ∀ a ∈ allA x.st, a ∈ K := fun a ha => by
    obtain ⟨k, s, h1, h2⟩ := (hAm a).1 ha
    obtain ⟨i, p, e, hp, hk, _⟩ := hin k s a h1 h2
    exact (hKm a).2 ⟨i, p, e, hp, hk⟩
  have hiff : KeptP x ↔ ∀ a ∈ K, a ∈ allA x.st := by
    constructor
    · intro h a ha
      obtain ⟨i, p, rfl, hp, hk⟩ := (hKm a).1 ha
      have hsp := hs p (List.mem_of_getElem? hp)
      obtain ⟨k, hk2⟩ := Int.eq_ofNat_of_zero_le hsp.1
      have hkl : k < x.st.length := by omega
      have hsk := List.getElem?_eq_getElem hkl
      have h1 := h i p hp hk
      rw [hk2, bankAt_eq hsk] at h1
      obtain ⟨c, hc, b, hb', e⟩ := kept_has.1 h1
      exact (hAm _).2 ⟨k, _, hsk, mem_siteA.2 ⟨by omega, c, hc, b, hb', e⟩⟩
    · intro h i p hp hk
      obtain ⟨k, s, h1, h2⟩ := (hAm _).1 (h _ ((hKm _).2 ⟨i, p, rfl, hp, hk⟩))
      obtain ⟨i', p', e, hp', _, hsite⟩ := hin k s _ h1 h2
      have : i' = i := by omega
      subst this
      rw [hp] at hp'; injection hp' with hp'; subst hp'
      rw [hsite, bankAt_eq h1]
      obtain ⟨_, c, hc, b, hb', e'⟩ := mem_siteA.1 h2
      exact kept_has.2 ⟨c, hc, b, hb', e'⟩
  rw [hiff, hKl]
  constructor
  · intro h
    have h1 := nodup_sub_len hAn hAK
    have h2 := nodup_sub_len hKn h
    omega
  · intro h a ha
    refine Classical.byContradiction fun hn => ?_
    have := nodup_sub_len (A := a :: allA x.st) (K := K) (List.nodup_cons.2 ⟨hn, hAn⟩) fun b hb' => by
      rcases List.mem_cons.1 hb' with rfl | hb'
      · exact ha
      · exact hAK b hb'
    simp only [List.length_cons] at this
    omega
end Go.Proofs.YtjpkpfmpjgeeiaaGreat
namespace Go.Proofs.YtjpkpfmpjgeeiaaGreat
open Go.RowKit
set_option linter.unusedVariables false

set_option maxRecDepth 100000 in
set_option maxHeartbeats 1000000 in
theorem kindI_any (w : World) (k : Int) : Calls Tryz.prog 116 #[.int .i64 k] w fun e w' => e = .returned (.bool (kindB k)) ∧ w' = w := by
  go_enter Tryz.func116, Tryz.ntmps116
  go_wp2
  all_goals (go_ret; exact ⟨rbool (by simp_all [kindB]), rfl⟩)
set_option maxRecDepth 100000 in
set_option maxHeartbeats 1000000 in
theorem doneI_any (w : World) (k : Int) (f : Bool) : Calls Tryz.prog 143 #[.int .i64 k, .bool f] w fun e w' => e = .returned (.bool (doneB k f)) ∧ w' = w := by
  go_enter Tryz.func143, Tryz.ntmps143
  go_wp2
  all_goals (go_ret; exact ⟨rbool (by rw [doneB]; congr 1), rfl⟩)
set_option maxRecDepth 100000 in
set_option maxHeartbeats 1000000 in
theorem befS_any (w : World) (k s : Int) (l o f : Bool) : Calls Tryz.prog 107 #[.agg #[.int .i64 k, .int .i64 s, .bool l, .bool o, .bool f]] w fun e w' => e = .returned (.bool (befDB k f)) ∧ Below w.heap.size w w' := by
  go_enter Tryz.func107, Tryz.ntmps107
  go_wp2
  all_goals (go_ret; exact ⟨rbool (by rw [befDB]; congr 1), balloc _ _⟩)
set_option maxRecDepth 100000 in
set_option maxHeartbeats 1000000 in
theorem fitI_any (w : World) (k s : Int) (l o f : Bool) : Calls Tryz.prog 117 #[.agg #[.int .i64 k, .int .i64 s, .bool l, .bool o, .bool f]] w fun e w' => e = .returned (.bool (fitB k s l o f)) ∧ Below w.heap.size w w' := by
  go_enter Tryz.func117, Tryz.ntmps117
  go_wp2_with fail
  refine (doneI_any _ k f).mono ?_
  rintro e w1 ⟨rfl, hw⟩
  rw [hw]; clear hw
  generalize hq : doneB k f = q
  go_wp2_with fail
  all_goals (go_ret; exact ⟨rbool (by simp_all [fitB]), balloc _ _⟩)
set_option maxRecDepth 100000 in
set_option maxHeartbeats 1000000 in
theorem doorI_any (w : World) (k s : Int) (l o f : Bool) : Calls Tryz.prog 81 #[.agg #[.int .i64 k, .int .i64 s, .bool l, .bool o, .bool f]] w fun e w' => e = .returned (.bool (doorB k s l o f)) ∧ Below w.heap.size w w' := by
  generalize hY : kindB k = Y
  have HY := Lib.hid hY; clear hY
  go_enter Tryz.func81, Tryz.ntmps81
  go_wp2_with (first
    | (go_at_call 116; refine (kindI_any _ _).mono ?_; rintro e w1 ⟨rfl, hw⟩; rw [hw, HY.out]; clear hw)
    | (go_at_call 117; refine (fitI_any _ _ _ _ _ _).mono ?_; rintro e w1 ⟨rfl, hb⟩))
  all_goals (go_ret; first | exact ⟨rbool (by have hY := HY.out; clear HY; simp_all [doorB]), balloc _ _⟩ | exact ⟨rbool (by have hY := HY.out; clear HY; simp_all [doorB]), bthen (balloc _ _) hb⟩)
end Go.Proofs.YtjpkpfmpjgeeiaaGreat
namespace Go.Proofs.YtjpkpfmpjgeeiaaGreat
open Go.RowKit
set_option linter.unusedVariables false
set_option maxRecDepth 100000 in
set_option maxHeartbeats 2000000 in
theorem doorS_any (w : World) (k s : Int) (l o f : Bool) : Calls Tryz.prog 64 #[.agg #[.int .i64 k, .int .i64 s, .bool l, .bool o, .bool f]] w fun e w' => e = .returned (.bool (doorB k s l o f)) ∧ Below w.heap.size w w' := by
  go_enter Tryz.func64, Tryz.ntmps64
  go_wp2_with (first
    | (go_at_call 33; refine (inR_any _ _ _ _).mono ?_; rintro e w1 ⟨rfl, hw⟩; rw [hw]; clear hw)
    | (go_at_call 107; refine (befS_any _ _ _ _ _ _).mono ?_; rintro e w1 ⟨rfl, hb⟩; have m := has_call (has_new w _ _) hb; have e0 := has_cell m 0 rfl; have e1 := has_cell m 1 rfl; have e2 := has_cell m 2 rfl; have e3 := has_cell m 3 rfl; have e4 := has_cell m 4 rfl; have lt := has_lt m; have HM := Lib.hid hb; clear hb m))
  all_goals (go_ret; first
    | exact ⟨rbool (by rw [doorB_alt]; simp_all [doorB2]), balloc _ _⟩
    | exact ⟨rbool (by clear HM; rw [doorB_alt]; simp_all [doorB2]), bthen (balloc _ _) HM.out⟩)
end Go.Proofs.YtjpkpfmpjgeeiaaGreat
