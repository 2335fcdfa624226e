/- Chapter 8: unite of the program: what its loop makes (gen_evun.py). -/
import Derived.Test.YtdcejkompdbliaaDoorEvUm
import Derived.Test.YtdcejkompdbliaaDoorEvK
import Derived.Test.YtdcejkompdbliaaDoorEvD
import Derived.Test.YtdcejkompdbliaaDoorEvJ
import Derived.Test.YtdcejkompdbliaaDoorEvUs
namespace Go.Proofs.YtdcejkompdbliaaDoor
open Go.RowKit
set_option linter.unusedVariables false
/-- the variable holds this error -/
def ErrV (w : World) (ad : Addr) : Prop := w.cell? ⟨0, 0, none⟩ = some (.iface 108 (.pointer (some ad)))
/-- how it answers: none where the two lists clash; else what merging them makes -/
def AnsU (l m : List Ev) (ad : Addr) (w : World) (e : Ending) (w' : World) : Prop :=
  Below w.heap.size w w' ∧ ((mrgL l m = none ∧ e = .returned (.tuple #[.slice none 0 0, .iface 108 (.pointer (some ad))])) ∨
    ∃ (s : List Ev) (A' : Option Addr) (c' : Nat), mrgL l m = some s ∧ s.length ≤ l.length + m.length ∧ s.length ≤ c' ∧ e = .returned (.tuple #[.slice A' s.length c', .nilIface]) ∧ OR w' w.heap.size 40 A' (evV s))
theorem src_box8 (w : World) (e : TypeId) (cs : Array Value) (size : Nat) (hs : cs.size = size) (h1 : ∀ u ∈ cs.toList, u.oneCell' = true) {g : Nat} (hg : g = w.heap.size) : Src (w.alloc (.cells cs e)) (some ⟨g, 0, none⟩) 1 size cs.toList := by
  subst hg; exact src_box w e cs size hs h1
theorem ErrV.below {w w' : World} {ad : Addr} (h : ErrV w ad) (hb : Below w.heap.size w w') : ErrV w' ad := (bold hb _ _ (World.block_lt_of_cell? _ _ h)).trans h

set_option maxRecDepth 100000 in
set_option maxHeartbeats 8000000 in
theorem unite_loop (w : World) (B B2 : Nat) (A A2 : Option Addr) (c c2 : Nat) (l m : List Ev) (ad : Addr) (hl : l.length ≤ 1048576) (hm : m.length ≤ 1048576) (hB : B ≤ w.heap.size) (hB2 : B2 ≤ w.heap.size) (hS : evL w B A l) (hS2 : evL w B2 A2 m) (hE : ErrV w ad) (hq : jrnB l = true) (hq2 : jrnB m = true) : Calls Tryd.prog 21 #[.slice A l.length c, .slice A2 m.length c2] w (AnsU l m ad w) := by
  have HS := Lib.hid hS; have HS2 := Lib.hid hS2; have HE := Lib.hid hE; have HQ := Lib.hid hq; have HQ2 := Lib.hid hq2; clear hS hS2 hE hq hq2
  obtain ⟨i0, hi0, hz0, hz1, hz2⟩ := info_parts evInfo
  have I0 := Lib.hid hi0; have Z0 := Lib.hid hz0; have Z1 := Lib.hid hz1; have Z2 := Lib.hid hz2; clear hi0 hz0 hz1 hz2
  have h60 := jrn_len HQ.out; have h62 := jrn_len HQ2.out
  go_enter Tryd.func21, Tryd.ntmps21
  go_wp2_with (first
    | (go_at_call 19; refine (byName_any _ B A c l hl hB HS.out (fun x hx => jrn_ev HQ.out hx)).mono ?_; rintro e w1 ⟨rfl, hme, hb1⟩)
    | (go_at_call 30; refine (cloneEvent_any _ B A c l hl (by have := hb1.size; omega) (HS.out.later hB hb1)).mono ?_; rintro e w2 ⟨A1, c1, rfl, hown, hb2⟩))
  have HM1 := Lib.hid (hme.call hb2); have HB1 := Lib.hid (bthen hb1 hb2); have HO1 := Lib.hid hown
  have hs1 := hb1.size; have hmlt := hme.lt; have HS9 := Lib.hid hb2.size
  clear hme hb1 hb2 hown
  go_loopw [7, 18] (fun v i wr => ∃ k : Nat, k ≤ m.length ∧ i = .int .i64 k ∧ wr.ownsRow w1.heap.size 40 7 v (l.length + (restE l m k).length) (evV (l ++ restE l m k)) ∧ ME wr w.heap.size l.length (mapE l) ∧ Below w.heap.size w wr ∧ SameE l m k ∧ w1.heap.size ≤ wr.heap.size) (fun _ i _ => m.length - (intOf i).toNat)
  case atStart => exact ⟨0, Nat.zero_le _, rfl, by simpa [restE] using HO1.out, HM1.out, HB1.out, sameE_zero _ _, by have := HS9.out; omega⟩
  case round =>
    clear HO1 HM1 HB1
    obtain ⟨k, hk, rfl, hown, hme, hb, hsm, hsr⟩ := hrel
    have hsz := hb.size
    have HM := Lib.hid hme; have HB := Lib.hid hb; have HO := Lib.hid hown; have HSM := Lib.hid hsm; clear hme hb hown hsm
    by_cases hlt : k < m.length
    · obtain ⟨b, off, ⟨x0, x1, x2, x3, x4, x5, x6⟩, hA, hbB, hx, hc0, hc1, hc2, hc3, hc4, hc5, hc6⟩ := (HS2.out.below (HB.out.mono hB2)).at_ hlt
      dsimp only at hc0 hc1 hc2 hc3 hc4 hc5 hc6
      have hin := inN_ev (jrn_at HQ2.out hx); dsimp only at hin
      have HX := Lib.hid hx; clear hx
      have HSA := Lib.hid hA; clear hA
      have hA := HSA.out; subst hA; clear HSA
      have hlen := restE_len l m k
      go_wp2_with fail
      generalize hX : (wr.alloc (.cells #[.int .i64 x0, .int .i64 x1, .int .i64 x2, .int .i64 x3, .int .i64 x4, .int .i64 x5, .int .i64 x6] 40)) = w3
      have hb3 : Below wr.heap.size wr w3 := by rw [← hX]; exact balloc _ _
      have za : Has w3 wr.heap.size 40 #[.int .i64 x0, .int .i64 x1, .int .i64 x2, .int .i64 x3, .int .i64 x4, .int .i64 x5, .int .i64 x6] := by rw [← hX]; exact has_new _ _ _
      clear hX hc0 hc1 hc2 hc3 hc4 hc5 hc6
      go_at_call 29
      refine (nameOf_any _ x0 x1 x2 x3 x4 x5 x6).mono ?_
      rintro e w4 ⟨rfl, hb4⟩
      have za4 := has_call za hb4
      have hb5 := bthen hb3 hb4
      have HM4 := Lib.hid (HM.out.call hb5); have HB4 := Lib.hid (HB.out.trans (hb5.mono hsz)); have HO4 := Lib.hid (own_kept HO.out hb5)
      have hs4 := hb5.size; have hzl := has_lt za4
      clear hb3 hb4 hb5 za HM HB HO
      have t0 := has_cell za4 0 rfl; have t1 := has_cell za4 1 rfl; have t2 := has_cell za4 2 rfl; have t3 := has_cell za4 3 rfl; have t4 := has_cell za4 4 rfl; have t5 := has_cell za4 5 rfl; have t6 := has_cell za4 6 rfl
      clear za4
      have hlook := me_look HM4.out hin
      cases hf : mapE l x0 x1 with
      | none =>
        have HF := Lib.hid hf
        rw [hf] at hlook; dsimp only [Option.getD_none, Option.isSome_none, zeroE, Ev.A] at hlook
        clear hf
        go_wp2_with (at_builtin; go_must (refine list_app rfl _ _ 24 rfl w1.heap.size 40 i0 (.agg #[.int .i64 0, .int .i64 0, .int .i64 0, .int .i64 0, .int .i64 0, .int .i64 0, .int .i64 0]) 7 56 Tryd.underlying24 I0.out Z0.out Z1.out Z2.out rfl (by decide) _ (l.length + (restE l m k).length) (evV (l ++ restE l m k)) rfl ((HO4.out.alloc _).alloc _) _ 1 1 #[.int .i64 x0, .int .i64 x1, .int .i64 x2, .int .i64 x3, .int .i64 x4, .int .i64 x5, .int .i64 x6].toList rfl (src_box8 _ _ #[.int .i64 x0, .int .i64 x1, .int .i64 x2, .int .i64 x3, .int .i64 x4, .int .i64 x5, .int .i64 x6] 7 rfl (by simp [Value.oneCell']) (by simp)) (by unfold maxLen; omega) (by omega) (by simp; omega) ?_))
        intro A3 c3 w8 hown8 hgrow8 _
        have hlt8 : ∀ q, Value.ownBlock _ = some q → w1.heap.size ≤ q := fun q hq => (HO4.out.lt q hq).1
        have hb8 : Below w.heap.size w w8 := ((HB4.out.alloc (by omega) _).alloc (by simp; omega) _).grown hgrow8 (by simp; omega) (fun q hq => by have := hlt8 q hq; omega)
        have hm8 := ((HM4.out.call (balloc _ _)).call (balloc _ _)).kept hgrow8 (fun e => by have := hlt8 _ e.symm; omega)
        have hs8 : w1.heap.size ≤ w8.heap.size := by have := hgrow8.size; simp at this; omega
        have HO8 := Lib.hid hown8; have HB8 := Lib.hid hb8; have HM8 := Lib.hid hm8; clear hown8 hgrow8 hb8 hm8 hlt8
        go_wp2_with fail
        go_roundw
        case rel => exact ⟨k + 1, by omega, by go_num, by rw [restE_yes HX.out HF.out, List.length_append, ← List.append_assoc, evV_app _ [_], evV_one]; exact HO8.out, HM8.out, HB8.out, sameE_none HSM.out HX.out HF.out, hs8⟩
        case measure => simp [intOf]; omega
      | some y =>
        obtain ⟨y0, y1, y2, y3, y4, y5, y6⟩ := y
        have HF := Lib.hid hf
        rw [hf] at hlook; dsimp only [Option.getD_some, Option.isSome_some, Ev.A] at hlook
        clear hf
        have hg4 : w4.cell? ⟨0, 0, none⟩ = some (.iface 108 (.pointer (some ad))) := HE.out.below HB4.out
        have hgl4 := World.block_lt_of_cell? _ _ hg4
        go_wp2_with fail
        all_goals first
          | (have hne : (⟨y0, y1, y2, y3, y4, y5, y6⟩ : Ev) ≠ ⟨x0, x1, x2, x3, x4, x5, x6⟩ := (fun e => by simp only [Ev.mk.injEq] at e; obtain ⟨e0, e1, e2, e3, e4, e5, e6⟩ := e; contradiction)
             have HC := Lib.hid (clash_none (jrn_srt HQ.out) (jrn_srt HQ2.out) HX.out HF.out hne)
             go_quiet (fail)
             go_wp2_with fail
             go_ret2
             exact ⟨below_drewN (HB4.out.alloc (by omega) _) _, .inl ⟨HC.out, rfl⟩⟩)
          | (exact ⟨⟨k + 1, by omega, by go_num, by rw [restE_no HX.out HF.out]; exact HO4.out.alloc _, HM4.out.call (balloc _ _), HB4.out.alloc (by omega) _, sameE_some HSM.out HX.out (by rw [HF.out]; simp only [Option.some.injEq, Ev.mk.injEq]; refine ⟨?_, ?_, ?_, ?_, ?_, ?_, ?_⟩ <;> assumption), by simp; omega⟩, by simp [intOf]; omega⟩)
    · have hkl : k = m.length := by omega
      subst hkl
      have hown2 := HO.out
      rw [← List.length_append] at hown2
      have hr9 := restE_len l m m.length
      obtain ⟨u, hu⟩ : ∃ u, l ++ restE l m m.length = u := ⟨_, rfl⟩
      have hul : u.length ≤ 120 := by rw [← hu, List.length_append]; omega
      have hul2 : u.length ≤ l.length + m.length := by rw [← hu, List.length_append]; omega
      rw [hu] at hown2
      have HU := Lib.hid hu; clear hu hr9
      obtain ⟨A3, c3, hv, hor⟩ := or_own hown2
      subst hv
      have HCP := Lib.hid (own_cap8 hown2)
      have HO2 := Lib.hid hown2; clear hown2 hor HO
      go_wp2_with (go_at_call 31; refine (sortE_any wr w1.heap.size A3 c3 u HO2.out hsr (by omega)).mono ?_; rintro e w5 ⟨rfl, s, hsl, hp, hpw, hor5, hb5⟩; have HPW := Lib.hid hpw; clear hpw)
      go_ret2
      exact ⟨HB.out.trans (hb5.mono (by omega)), .inr ⟨s, A3, c3, unite_eq (jrn_srt HQ.out) (jrn_srt HQ2.out) HSM.out (by rw [← restE_all, HU.out]; exact hp) (HPW.out.imp (fun {x y} h => Int.not_lt.2 h)), by omega, by have := HCP.out; omega, by rw [hsl]; rfl, hor5.more (by omega)⟩⟩

end Go.Proofs.YtdcejkompdbliaaDoor
