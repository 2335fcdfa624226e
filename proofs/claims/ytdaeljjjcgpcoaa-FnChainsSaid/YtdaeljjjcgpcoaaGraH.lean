/- Chapter 5: the walk of the program's ChainOf (gen_grh.py). -/
import Derived.Test.YtdaeljjjcgpcoaaGraG
import Derived.Test.YtdaeljjjcgpcoaaGraW
import Derived.Deep.Onto
namespace Go.Proofs.Ytdaeljjjcgpcoaa
open Go.RowKit
set_option linter.unusedVariables false
theorem force_mem {p t : Int} {l : List Gr} {g : Gr} (h : g ∈ forceL p t l) : 0 ≤ g.to ∧ g.to ≤ 1000 := by
  obtain ⟨q, _, rfl⟩ := List.mem_map.1 h
  by_cases e : appB p t q = true
  · rw [if_pos e]; have := (grantB_facts (appB_ok e)).2.1; omega
  · rw [if_neg e]; simp [zeroG]
theorem steps_val {l : List Gr} {p t sp who : Int} {S : PM} (h0 : 0 ≤ sp) (h : Steps l p t sp who S) : ∀ z v, S z = some v → 0 ≤ v ∧ v ≤ 1000 := fun z v hz => by
  obtain ⟨k, rfl, hr⟩ := h.snd z v hz
  have := rh_le h0 hr; omega
theorem steps_key {l : List Gr} {p t sp who : Int} {S : PM} (hw : 1 ≤ who ∧ who ≤ 40) (h : Steps l p t sp who S) {z v : Int} (hz : S z = some v) : 1 ≤ z ∧ z ≤ 40 := by
  obtain ⟨k, rfl, hr⟩ := h.snd z v hz
  exact rh_person hw hr

set_option maxRecDepth 100000 in
set_option maxHeartbeats 2000000 in
theorem chainI_0 (w : World) (B : Nat) (A : Option Addr) (c : Nat) (l : List Gr) (owner who p t : Int) (hl : l.length ≤ 1048576) (hB : B ≤ w.heap.size) (hS : grL w B A l) (hq : grantsB l = false) : Calls Try.prog 6 #[.slice A l.length c, .int .i64 owner, .int .i64 who, .int .i64 p, .int .i64 t] w (ChainAns (chainA l owner who p t) w) := by
  have hlm : l.length ≤ maxLen := by unfold maxLen; omega
  have HB := Lib.hid (show goodB l owner who p t = false by unfold goodB; simp [hq])
  have HS := Lib.hid hS; clear hS
  have Hq := Lib.hid hq; clear hq
  go_enter Try.func6, Try.ntmps6
  go_wp2_with (first | (go_at_call 14; refine (grantsI_any w B A c l hlm hB HS.out).mono ?_; rintro e w1 ⟨rfl, hb1⟩; rw [Hq.out]))
  go_ret2
  exact chain_no (chain_bad HB.out) hb1
set_option maxRecDepth 100000 in
set_option maxHeartbeats 2000000 in
theorem chainI_1 (w : World) (B : Nat) (A : Option Addr) (c : Nat) (l : List Gr) (owner who p t : Int) (hl : l.length ≤ 1048576) (hB : B ≤ w.heap.size) (hS : grL w B A l) (hq : grantsB l = true) (ho : perB owner = false) : Calls Try.prog 6 #[.slice A l.length c, .int .i64 owner, .int .i64 who, .int .i64 p, .int .i64 t] w (ChainAns (chainA l owner who p t) w) := by
  have hlm : l.length ≤ maxLen := by unfold maxLen; omega
  have HB := Lib.hid (show goodB l owner who p t = false by unfold goodB; simp [hq, ho])
  have HS := Lib.hid hS; clear hS
  have Hq := Lib.hid hq; clear hq
  have Ho := Lib.hid ho; clear ho
  go_enter Try.func6, Try.ntmps6
  go_wp2_with (first | (go_at_call 14; refine (grantsI_any w B A c l hlm hB HS.out).mono ?_; rintro e w1 ⟨rfl, hb1⟩; rw [Hq.out]) | (go_at_call 15; (with_reducible refine (perI_any _ owner).mono ?_); rintro e w2 ⟨rfl, hw⟩; rw [hw, Ho.out]; clear hw))
  go_ret2
  exact chain_no (chain_bad HB.out) hb1
set_option maxRecDepth 100000 in
set_option maxHeartbeats 2000000 in
theorem chainI_2 (w : World) (B : Nat) (A : Option Addr) (c : Nat) (l : List Gr) (owner who p t : Int) (hl : l.length ≤ 1048576) (hB : B ≤ w.heap.size) (hS : grL w B A l) (hq : grantsB l = true) (ho : perB owner = true) (hh : perB who = false) : Calls Try.prog 6 #[.slice A l.length c, .int .i64 owner, .int .i64 who, .int .i64 p, .int .i64 t] w (ChainAns (chainA l owner who p t) w) := by
  have hlm : l.length ≤ maxLen := by unfold maxLen; omega
  have HB := Lib.hid (show goodB l owner who p t = false by unfold goodB; simp [hq, ho, hh])
  have HS := Lib.hid hS; clear hS
  have Hq := Lib.hid hq; clear hq
  have Ho := Lib.hid ho; clear ho
  have Hh := Lib.hid hh; clear hh
  go_enter Try.func6, Try.ntmps6
  go_wp2_with (first | (go_at_call 14; refine (grantsI_any w B A c l hlm hB HS.out).mono ?_; rintro e w1 ⟨rfl, hb1⟩; rw [Hq.out]) | (go_at_call 15; (with_reducible refine (perI_any _ owner).mono ?_); rintro e w2 ⟨rfl, hw⟩; rw [hw, Ho.out]; clear hw) | (go_at_call 15; (with_reducible refine (perI_any _ who).mono ?_); rintro e w2 ⟨rfl, hw⟩; rw [hw, Hh.out]; clear hw))
  go_ret2
  exact chain_no (chain_bad HB.out) hb1
set_option maxRecDepth 100000 in
set_option maxHeartbeats 2000000 in
theorem chainI_3 (w : World) (B : Nat) (A : Option Addr) (c : Nat) (l : List Gr) (owner who p t : Int) (hl : l.length ≤ 1048576) (hB : B ≤ w.heap.size) (hS : grL w B A l) (hq : grantsB l = true) (ho : perB owner = true) (hh : perB who = true) (hp : inR p 1 999 = false) : Calls Try.prog 6 #[.slice A l.length c, .int .i64 owner, .int .i64 who, .int .i64 p, .int .i64 t] w (ChainAns (chainA l owner who p t) w) := by
  have hlm : l.length ≤ maxLen := by unfold maxLen; omega
  have HB := Lib.hid (show goodB l owner who p t = false by unfold goodB; simp [hq, ho, hh, hp])
  have HS := Lib.hid hS; clear hS
  have Hq := Lib.hid hq; clear hq
  have Ho := Lib.hid ho; clear ho
  have Hh := Lib.hid hh; clear hh
  have Hp := Lib.hid hp; clear hp
  go_enter Try.func6, Try.ntmps6
  go_wp2_with (first | (go_at_call 14; refine (grantsI_any w B A c l hlm hB HS.out).mono ?_; rintro e w1 ⟨rfl, hb1⟩; rw [Hq.out]) | (go_at_call 15; (with_reducible refine (perI_any _ owner).mono ?_); rintro e w2 ⟨rfl, hw⟩; rw [hw, Ho.out]; clear hw) | (go_at_call 15; (with_reducible refine (perI_any _ who).mono ?_); rintro e w2 ⟨rfl, hw⟩; rw [hw, Hh.out]; clear hw) | (go_at_call 16; refine (parI_any _ p).mono ?_; rintro e w2 ⟨rfl, hw⟩; rw [hw, Hp.out]; clear hw))
  go_ret2
  exact chain_no (chain_bad HB.out) hb1
set_option maxRecDepth 100000 in
set_option maxHeartbeats 2000000 in
theorem chainI_4 (w : World) (B : Nat) (A : Option Addr) (c : Nat) (l : List Gr) (owner who p t : Int) (hl : l.length ≤ 1048576) (hB : B ≤ w.heap.size) (hS : grL w B A l) (hq : grantsB l = true) (ho : perB owner = true) (hh : perB who = true) (hp : inR p 1 999 = true) (ht : timB t = false) : Calls Try.prog 6 #[.slice A l.length c, .int .i64 owner, .int .i64 who, .int .i64 p, .int .i64 t] w (ChainAns (chainA l owner who p t) w) := by
  have hlm : l.length ≤ maxLen := by unfold maxLen; omega
  have HB := Lib.hid (show goodB l owner who p t = false by unfold goodB; simp [hq, ho, hh, hp, ht])
  have HS := Lib.hid hS; clear hS
  have Hq := Lib.hid hq; clear hq
  have Ho := Lib.hid ho; clear ho
  have Hh := Lib.hid hh; clear hh
  have Hp := Lib.hid hp; clear hp
  have Ht := Lib.hid ht; clear ht
  go_enter Try.func6, Try.ntmps6
  go_wp2_with (first | (go_at_call 14; refine (grantsI_any w B A c l hlm hB HS.out).mono ?_; rintro e w1 ⟨rfl, hb1⟩; rw [Hq.out]) | (go_at_call 15; (with_reducible refine (perI_any _ owner).mono ?_); rintro e w2 ⟨rfl, hw⟩; rw [hw, Ho.out]; clear hw) | (go_at_call 15; (with_reducible refine (perI_any _ who).mono ?_); rintro e w2 ⟨rfl, hw⟩; rw [hw, Hh.out]; clear hw) | (go_at_call 16; refine (parI_any _ p).mono ?_; rintro e w2 ⟨rfl, hw⟩; rw [hw, Hp.out]; clear hw) | (go_at_call 17; refine (timI_any _ t).mono ?_; rintro e w2 ⟨rfl, hw⟩; rw [hw, Ht.out]; clear hw))
  go_ret2
  exact chain_no (chain_bad HB.out) hb1
set_option maxRecDepth 100000 in
set_option maxHeartbeats 8000000 in
theorem chainI_yes (w : World) (B : Nat) (A : Option Addr) (c : Nat) (l : List Gr) (owner who p t : Int) (hl : l.length ≤ 1048576) (hB : B ≤ w.heap.size) (hS : grL w B A l) (hgood : goodB l owner who p t = true) : Calls Try.prog 6 #[.slice A l.length c, .int .i64 owner, .int .i64 who, .int .i64 p, .int .i64 t] w (ChainAns (chainA l owner who p t) w) := by
  have hg2 := hgood
  simp only [goodB, Bool.and_eq_true] at hg2
  obtain ⟨⟨⟨⟨hq, ho⟩, hh⟩, hp⟩, ht⟩ := hg2
  have hl30 := grantsB_len hq
  have hop := perB_iff.1 ho
  have hhp := perB_iff.1 hh
  have hlm : l.length ≤ maxLen := by unfold maxLen; omega
  have hFl := forceL_len p t l
  obtain ⟨i0, hi0, hz0, hz1, hz2⟩ := info_parts intInfo
  have I0 := Lib.hid hi0; have Z0 := Lib.hid hz0; have Z1 := Lib.hid hz1; have Z2 := Lib.hid hz2; clear hi0 hz0 hz1 hz2
  have HS := Lib.hid hS; have HGOOD := Lib.hid hgood; have HFL := Lib.hid hFl; clear hS hgood hFl
  have Hq := Lib.hid hq; clear hq
  have Ho := Lib.hid ho; clear ho
  have Hh := Lib.hid hh; clear hh
  have Hp := Lib.hid hp; clear hp
  have Ht := Lib.hid ht; clear ht
  go_enter Try.func6, Try.ntmps6
  go_wp2_with (first | (go_at_call 14; refine (grantsI_any w B A c l hlm hB HS.out).mono ?_; rintro e w1 ⟨rfl, hb1⟩; rw [Hq.out]) | (go_at_call 15; (with_reducible refine (perI_any _ owner).mono ?_); rintro e w2 ⟨rfl, hw⟩; rw [hw, Ho.out]; clear hw) | (go_at_call 15; (with_reducible refine (perI_any _ who).mono ?_); rintro e w2 ⟨rfl, hw⟩; rw [hw, Hh.out]; clear hw) | (go_at_call 16; refine (parI_any _ p).mono ?_; rintro e w2 ⟨rfl, hw⟩; rw [hw, Hp.out]; clear hw) | (go_at_call 17; refine (timI_any _ t).mono ?_; rintro e w2 ⟨rfl, hw⟩; rw [hw, Ht.out]; clear hw) | (go_at_call 18; refine (force_any w1 B A c l p t hl (by have := hb1.size; omega) (HS.out.later hB hb1)).mono ?_; rintro e w3 ⟨A3, c3, rfl, hrow, hb3⟩; have HROW := Lib.hid hrow; have HB3 := Lib.hid (bthen hb1 hb3); have hs3 := HB3.out.size; clear hrow hb3) | (go_at_call 19; refine (steps_any w3 w3.heap.size A3 c3 l (forceL p t l) p t 0 who rfl (by rw [HFL.out]; exact hl30) hhp (by omega) (Nat.le_refl _) HROW.out.gr).mono ?_))
  rintro e w4 ⟨bm, nm, S, rfl, hM, hst, hbm, hb4⟩
  have HST := Lib.hid hst; have HM := Lib.hid hM; have HB4 := Lib.hid (HB3.out.trans (hb4.mono hs3)); have HG := Lib.hid (HROW.out.below hb4).gr; have hs4 := HB4.out.size
  clear hst hM hb4 HB3 HROW hbm hb1
  have hsh := steps_short (owner := owner) (Int.le_refl 0) HST.out
  cases hS0 : S owner with
  | none =>
    have HK := Lib.hid (show (S owner).isSome = false by rw [hS0]; rfl)
    have HR := Lib.hid (show chainA l owner who p t = none by
      unfold chainA; rw [HGOOD.out, if_pos rfl]
      rw [hS0] at hsh
      cases hq : shortB l p t 0 who owner with
      | none => rfl
      | some h => rw [hq] at hsh; cases hsh)
    clear hsh hS0
    go_wp2_with (go_at_call 20; refine (has_any w4 bm nm S owner HM.out (by omega)).mono ?_; rintro e w5 ⟨rfl, hw⟩; rw [hw, HK.out]; clear hw)
    go_ret2
    exact chain_no HR.out HB4.out
  | some v =>
    have HK := Lib.hid (show (S owner).isSome = true by rw [hS0]; rfl)
    obtain ⟨h0, hv⟩ : ∃ h0 : Nat, shortB l p t 0 who owner = some h0 ∧ v = (h0 : Int) := by
      rw [hS0] at hsh
      cases hq : shortB l p t 0 who owner with
      | none => rw [hq] at hsh; cases hsh
      | some h => rw [hq] at hsh; injection hsh with hsh; exact ⟨h, rfl, hsh⟩
    obtain ⟨hsb, rfl⟩ := hv
    have HR := Lib.hid (show chainA l owner who p t = some (chainL l p t who h0 owner) by unfold chainA; rw [HGOOD.out, if_pos rfl, hsb]; rfl)
    have hh6 : h0 ≤ 6 := by
      obtain ⟨k, hk, hr⟩ := HST.out.snd _ _ hS0
      have := rh_le (Int.le_refl 0) hr; omega
    have HS0 := Lib.hid hS0; clear hsh hsb hS0
    go_wp2_with (go_at_call 20; refine (has_any w4 bm nm S owner HM.out (by omega)).mono ?_; rintro e w5 ⟨rfl, hw⟩; rw [hw, HK.out]; clear hw)
    go_loopg [14, 15] h0 (fun g v x5 wr => ∃ (x : Int) (don : List Int), x5 = .int .i64 x ∧ S x = some (g : Int) ∧ chainL l p t who h0 owner = don ++ chainL l p t who g x ∧ don.length + g ≤ 6 ∧ wr.ownsRow w4.heap.size 3 1 v don.length (intV don) ∧ Below w4.heap.size w4 wr)
    case atStart => exact ⟨owner, [], rfl, HS0.out, rfl, by simpa using hh6, owns_new w4 _ _ _ (Nat.le_refl _), balloc _ _⟩
    case round =>
      obtain ⟨x, don, rfl, hSx, hch, hdl, hown, hb⟩ := hrel
      have hxp := steps_key hhp HST.out hSx
      have HSX := Lib.hid hSx; have HCH := Lib.hid hch; have HOWN := Lib.hid hown; have hsr := hb.size; have HB := Lib.hid hb; clear hSx hch hown hb
      by_cases hxw : x = who
      · have e0 : (x != who) = false := by simp [hxw]
        have HXW := Lib.hid hxw; clear hxw
        obtain ⟨A9, c9, rfl, hor⟩ := or_own HOWN.out
        have HOR := Lib.hid hor; clear hor HOWN
        go_wp2
        go_ret2
        have hg0 : gk = 0 := by
          have h1 := steps_who HST.out
          rw [← HXW.out, HSX.out] at h1
          injection h1 with h1; omega
        subst hg0
        have hc := HCH.out
        simp only [chainL, List.append_nil] at hc
        rw [HR.out, hc]
        exact ⟨A9, c9, rfl, HOR.out.more hs4, HB4.out.trans (HB.out.mono hs4)⟩
      · have e0 : (x != who) = true := by simp [hxw]
        obtain ⟨h, hgh⟩ := steps_other HST.out HSX.out hxw
        obtain rfl : gk = h + 1 := by omega
        have hSx' : S x = some ((h : Int) + 1) := by rw [HSX.out]; simp
        obtain ⟨i, g, hi, hli, hap, hSg, hcl⟩ := ch_next HST.out hSx'
        have hfi := fg_idx hhp HST.out hSx'
        rw [hi] at hfi
        have hil : i < l.length := (List.getElem?_eq_some_iff.1 hli).1
        have hFi := force_at (p := p) (t := t) hli
        rw [hap, if_pos rfl] at hFi
        have hgl := HG.out.later (Nat.le_refl _) HB.out
        obtain ⟨b7, o7, y7, rfl, hb7, hy7, q0, q1, q2, q3, q4, q5, q6⟩ := hgl.at_ (k := i) (by rw [HFL.out]; exact hil)
        rw [hFi] at hy7; injection hy7 with hy7; subst hy7
        have HIX := Lib.hid (show idxI ((forceL p t l).findIdx? (fgP S x)) = (i : Int) by rw [hfi]; rfl)
        have Q1 := Lib.hid q1; have HSG := Lib.hid hSg; have HCL := Lib.hid hcl; have HSX' := Lib.hid hSx'
        have hFl30 : (forceL p t l).length ≤ 30 := by rw [HFL.out]; exact hl30
        have hiF : i < (forceL p t l).length := by rw [HFL.out]; exact hil
        have hxw2 := Lib.hid hxw
        clear hxw hgh hSx' hi hli hap hSg hcl hfi hFi hgl q0 q1 q2 q3 q4 q5 q6 HSX
        go_wp2_with (first | (go_at_call 21; refine (first_any _ w4.heap.size (some ⟨b7, o7, none⟩) c3 (forceL p t l) bm nm S x _ (by unfold maxLen; omega) (by omega) (HG.out.later (Nat.le_refl _) HB.out) (HM.out.call HB.out) (fun g hg => force_mem hg) (by omega) HSX'.out (steps_val (Int.le_refl 0) HST.out)).mono ?_; rintro e w6 ⟨rfl, hb6⟩; rw [HIX.out]; have HOWN6 := Lib.hid (own_kept HOWN.out hb6); have HB6 := Lib.hid (HB.out.trans (hb6.mono hsr)); have hs6 := HB6.out.size; clear hb6 HOWN) | (at_builtin; go_must (refine list_app rfl _ _ 27 rfl w4.heap.size 3 i0 (.int .i64 0) 1 8 Try.underlying27 I0.out Z0.out Z1.out Z2.out rfl (by decide) _ _ _ rfl (HOWN6.out.alloc _) _ 1 1 (#[.int .i64 (i : Int)] : Array Value).toList rfl (src_box _ _ #[.int .i64 (i : Int)] 1 rfl (by simp [Value.oneCell'])) (by unfold maxLen; omega) (by omega) (by simp; omega) ?_); intro A8 c8 w8 hown8 hgrow8 _; have hb8 : Below w4.heap.size w4 w8 := (HB6.out.alloc hs6 _).grown hgrow8 (by simp; omega) (fun k hk => ((HOWN6.out.lt k hk).1)); have HOWN8 := Lib.hid hown8; have q1 := (hb8.cell (p := ⟨b7, o7 + i * 7 + 1, none⟩) hb7).trans ((HB.out.cell (p := ⟨b7, o7 + i * 7 + 1, none⟩) hb7).symm.trans Q1.out); have HB8 := Lib.hid hb8; clear hown8 hgrow8 hb8 HB6 HOWN6))
        go_roundg h
        case measure => omega
        case rel => exact ⟨g.to, don ++ [(i : Int)], rfl, HSG.out, by rw [HCH.out, HCL.out]; simp, by simp; omega, by simpa [intV] using HOWN8.out, HB8.out⟩
theorem chainI_any (w : World) (B : Nat) (A : Option Addr) (c : Nat) (l : List Gr) (owner who p t : Int) (hl : l.length ≤ 1048576) (hB : B ≤ w.heap.size) (hS : grL w B A l) : Calls Try.prog 6 #[.slice A l.length c, .int .i64 owner, .int .i64 who, .int .i64 p, .int .i64 t] w (ChainAns (chainA l owner who p t) w) := by
  cases hq : grantsB l
  · exact chainI_0 w B A c l owner who p t hl hB hS hq
  cases ho : perB owner
  · exact chainI_1 w B A c l owner who p t hl hB hS hq ho
  cases hh : perB who
  · exact chainI_2 w B A c l owner who p t hl hB hS hq ho hh
  cases hp : inR p 1 999
  · exact chainI_3 w B A c l owner who p t hl hB hS hq ho hh hp
  cases ht : timB t
  · exact chainI_4 w B A c l owner who p t hl hB hS hq ho hh hp ht
  exact chainI_yes w B A c l owner who p t hl hB hS (by simp [goodB, hq, ho, hh, hp, ht])
end Go.Proofs.Ytdaeljjjcgpcoaa
