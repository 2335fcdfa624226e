/- Chapter 8: MergeJournals of the program (gen_evuj.py). -/
import Derived.Test.YtdcejkompdbliaaDoorEvUn
import Derived.Test.YtdcejkompdbliaaDoorEvIs
namespace Go.Proofs.YtdcejkompdbliaaDoor
open Go.RowKit
set_option linter.unusedVariables false
theorem unite_none (w : World) (B B2 : Nat) (A A2 : Option Addr) (c c2 : Nat) (l m : List Ev) (ad : Addr) (hl : l.length ≤ 1048576) (hm : m.length ≤ 1048576) (hB : B ≤ w.heap.size) (hB2 : B2 ≤ w.heap.size) (hS : evL w B A l) (hS2 : evL w B2 A2 m) (hE : ErrV w ad) (hq : jrnB l = true) (hq2 : jrnB m = true) (hn : mrgL l m = none) : Calls Tryd.prog 21 #[.slice A l.length c, .slice A2 m.length c2] w fun e w' => e = .returned (.tuple #[.slice none 0 0, .iface 108 (.pointer (some ad))]) ∧ Below w.heap.size w w' := by
  refine (unite_loop w B B2 A A2 c c2 l m ad hl hm hB hB2 hS hS2 hE hq hq2).mono ?_
  rintro e w' ⟨hb, ⟨_, h⟩ | ⟨s, A', c', h, _⟩⟩
  · exact ⟨h, hb⟩
  · rw [hn] at h; cases h
theorem unite_some (w : World) (B B2 : Nat) (A A2 : Option Addr) (c c2 : Nat) (l m : List Ev) (ad : Addr) (hl : l.length ≤ 1048576) (hm : m.length ≤ 1048576) (hB : B ≤ w.heap.size) (hB2 : B2 ≤ w.heap.size) (hS : evL w B A l) (hS2 : evL w B2 A2 m) (hE : ErrV w ad) (hq : jrnB l = true) (hq2 : jrnB m = true) (s : List Ev) (hn : mrgL l m = some s) : Calls Tryd.prog 21 #[.slice A l.length c, .slice A2 m.length c2] w fun e w' => ∃ (A' : Option Addr) (c' : Nat), e = .returned (.tuple #[.slice A' s.length c', .nilIface]) ∧ s.length ≤ c' ∧ s.length ≤ l.length + m.length ∧ OR w' w.heap.size 40 A' (evV s) ∧ Below w.heap.size w w' := by
  refine (unite_loop w B B2 A A2 c c2 l m ad hl hm hB hB2 hS hS2 hE hq hq2).mono ?_
  rintro e w' ⟨hb, ⟨h, _⟩ | ⟨s', A', c', h, h1, h2, h3, h4⟩⟩
  · rw [hn] at h; cases h
  · rw [hn] at h; injection h with h; subst h
    exact ⟨A', c', h3, h2, h1, h4, hb⟩
set_option maxRecDepth 100000 in
set_option maxHeartbeats 2000000 in
theorem mergeI_bad1 (w : World) (B B2 : Nat) (A A2 : Option Addr) (c c2 : Nat) (l m : List Ev) (ad : Addr) (hl : l.length ≤ 1048576) (hm : m.length ≤ 1048576) (hB : B ≤ w.heap.size) (hB2 : B2 ≤ w.heap.size) (hS : evL w B A l) (hS2 : evL w B2 A2 m) (hE : ErrV w ad) (hq : jrnB l = false) : Calls Tryd.prog 12 #[.slice A l.length c, .slice A2 m.length c2] w (AnsE2 (mergeE l m) w) := by
  have HQ := Lib.hid hq; clear hq
  have hlm : l.length ≤ maxLen := by unfold maxLen; omega
  have hmm : m.length ≤ maxLen := by unfold maxLen; omega
  have HLM := Lib.hid hlm; have HMM := Lib.hid hmm; unfold maxLen at hlm hmm
  have HS := Lib.hid hS; have HS2 := Lib.hid hS2; have HE := Lib.hid hE; clear hS hS2 hE
  go_enter Tryd.func12, Tryd.ntmps12
  go_wp2_with (go_at_call 18; (with_reducible refine (jrnI_any _ B A c l HLM.out hB HS.out).mono ?_); rintro e w1 ⟨rfl, hb1⟩; rw [HQ.out])
  go_ret2
  rw [mergeE_bad (.inl HQ.out)]
  exact ⟨none, 0, Nat.le_refl _, rfl, .inl rfl, hb1⟩
set_option maxRecDepth 100000 in
set_option maxHeartbeats 2000000 in
theorem mergeI_bad2 (w : World) (B B2 : Nat) (A A2 : Option Addr) (c c2 : Nat) (l m : List Ev) (ad : Addr) (hl : l.length ≤ 1048576) (hm : m.length ≤ 1048576) (hB : B ≤ w.heap.size) (hB2 : B2 ≤ w.heap.size) (hS : evL w B A l) (hS2 : evL w B2 A2 m) (hE : ErrV w ad) (hq : jrnB l = true) (hq2 : jrnB m = false) : Calls Tryd.prog 12 #[.slice A l.length c, .slice A2 m.length c2] w (AnsE2 (mergeE l m) w) := by
  have HQ := Lib.hid hq; have HQ2 := Lib.hid hq2; clear hq hq2
  have hlm : l.length ≤ maxLen := by unfold maxLen; omega
  have hmm : m.length ≤ maxLen := by unfold maxLen; omega
  have HLM := Lib.hid hlm; have HMM := Lib.hid hmm; unfold maxLen at hlm hmm
  have HS := Lib.hid hS; have HS2 := Lib.hid hS2; have HE := Lib.hid hE; clear hS hS2 hE
  go_enter Tryd.func12, Tryd.ntmps12
  go_wp2_with (first | (go_at_call 18; (with_reducible refine (jrnI_any _ B A c l HLM.out hB HS.out).mono ?_); rintro e w1 ⟨rfl, hb1⟩; rw [HQ.out]) | (go_at_call 18; (with_reducible refine (jrnI_any _ B2 A2 c2 m HMM.out (by have := hb1.size; omega) (HS2.out.later hB2 hb1)).mono ?_); rintro e w2 ⟨rfl, hb2⟩; rw [HQ2.out]))
  go_ret2
  rw [mergeE_bad (.inr HQ2.out)]
  exact ⟨none, 0, Nat.le_refl _, rfl, .inl rfl, bthen hb1 hb2⟩
set_option maxRecDepth 100000 in
set_option maxHeartbeats 4000000 in
theorem mergeI_none (w : World) (B B2 : Nat) (A A2 : Option Addr) (c c2 : Nat) (l m : List Ev) (ad : Addr) (hl : l.length ≤ 1048576) (hm : m.length ≤ 1048576) (hB : B ≤ w.heap.size) (hB2 : B2 ≤ w.heap.size) (hS : evL w B A l) (hS2 : evL w B2 A2 m) (hE : ErrV w ad) (hq : jrnB l = true) (hq2 : jrnB m = true) (hn : mrgL l m = none) : Calls Tryd.prog 12 #[.slice A l.length c, .slice A2 m.length c2] w (AnsE2 (mergeE l m) w) := by
  have HQ := Lib.hid hq; have HQ2 := Lib.hid hq2; clear hq hq2
  have HN := Lib.hid hn; clear hn
  have hlm : l.length ≤ maxLen := by unfold maxLen; omega
  have hmm : m.length ≤ maxLen := by unfold maxLen; omega
  have HLM := Lib.hid hlm; have HMM := Lib.hid hmm; unfold maxLen at hlm hmm
  have HS := Lib.hid hS; have HS2 := Lib.hid hS2; have HE := Lib.hid hE; clear hS hS2 hE
  go_enter Tryd.func12, Tryd.ntmps12
  go_wp2_with (first | (go_at_call 18; (with_reducible refine (jrnI_any _ B A c l HLM.out hB HS.out).mono ?_); rintro e w1 ⟨rfl, hb1⟩; rw [HQ.out]) | (go_at_call 18; (with_reducible refine (jrnI_any _ B2 A2 c2 m HMM.out (by have := hb1.size; omega) (HS2.out.later hB2 hb1)).mono ?_); rintro e w2 ⟨rfl, hb2⟩; rw [HQ2.out]) | (go_at_call 21; refine (unite_none _ B B2 A A2 c c2 l m ad hl hm (by have := hb1.size; have := hb2.size; omega) (by have := hb1.size; have := hb2.size; omega) ((HS.out.later hB hb1).later (by have := hb1.size; omega) hb2) ((HS2.out.later hB2 hb1).later (by have := hb1.size; omega) hb2) ((HE.out.below hb1).below hb2) HQ.out HQ2.out HN.out).mono ?_; rintro e w3 ⟨rfl, hb3⟩; have hg3 : w3.cell? ⟨0, 0, none⟩ = some (.iface 108 (.pointer (some ad))) := ((HE.out.below hb1).below hb2).below hb3; have hgl3 := World.block_lt_of_cell? _ _ hg3) | (go_at_call 22; refine (isSame8 ad _).mono ?_; rintro e w4 ⟨rfl, hw4⟩; rw [hw4]; clear hw4 w4))
  go_ret2
  rw [mergeE_none HN.out]
  exact ⟨none, 0, Nat.le_refl _, rfl, .inl rfl, bthen (bthen hb1 hb2) hb3⟩
set_option maxRecDepth 100000 in
set_option maxHeartbeats 4000000 in
theorem mergeI_no (w : World) (B B2 : Nat) (A A2 : Option Addr) (c c2 : Nat) (l m : List Ev) (ad : Addr) (hl : l.length ≤ 1048576) (hm : m.length ≤ 1048576) (hB : B ≤ w.heap.size) (hB2 : B2 ≤ w.heap.size) (hS : evL w B A l) (hS2 : evL w B2 A2 m) (hE : ErrV w ad) (hq : jrnB l = true) (hq2 : jrnB m = true) (s : List Ev) (hn : mrgL l m = some s) (hv : jrnB s = false) : Calls Tryd.prog 12 #[.slice A l.length c, .slice A2 m.length c2] w (AnsE2 (mergeE l m) w) := by
  have HQ := Lib.hid hq; have HQ2 := Lib.hid hq2; clear hq hq2
  have HN := Lib.hid hn; have HV := Lib.hid hv; clear hn hv
  have hlm : l.length ≤ maxLen := by unfold maxLen; omega
  have hmm : m.length ≤ maxLen := by unfold maxLen; omega
  have HLM := Lib.hid hlm; have HMM := Lib.hid hmm; unfold maxLen at hlm hmm
  have HS := Lib.hid hS; have HS2 := Lib.hid hS2; have HE := Lib.hid hE; clear hS hS2 hE
  go_enter Tryd.func12, Tryd.ntmps12
  go_wp2_with (first | (go_at_call 18; (with_reducible refine (jrnI_any _ B A c l HLM.out hB HS.out).mono ?_); rintro e w1 ⟨rfl, hb1⟩; rw [HQ.out]) | (go_at_call 18; (with_reducible refine (jrnI_any _ B2 A2 c2 m HMM.out (by have := hb1.size; omega) (HS2.out.later hB2 hb1)).mono ?_); rintro e w2 ⟨rfl, hb2⟩; rw [HQ2.out]) | (go_at_call 21; refine (unite_some _ B B2 A A2 c c2 l m ad hl hm (by have := hb1.size; have := hb2.size; omega) (by have := hb1.size; have := hb2.size; omega) ((HS.out.later hB hb1).later (by have := hb1.size; omega) hb2) ((HS2.out.later hB2 hb1).later (by have := hb1.size; omega) hb2) ((HE.out.below hb1).below hb2) HQ.out HQ2.out s HN.out).mono ?_; rintro e w3 ⟨A3, c3, rfl, hcap, hsl, hor, hb3⟩; have hg3 : w3.cell? ⟨0, 0, none⟩ = some (.iface 108 (.pointer (some ad))) := ((HE.out.below hb1).below hb2).below hb3; have hgl3 := World.block_lt_of_cell? _ _ hg3; have HOR := Lib.hid hor; clear hor) | (go_at_call 22; refine (isNil8 ad _).mono ?_; rintro e w4 ⟨rfl, hw4⟩; rw [hw4]; clear hw4 w4) | (go_at_call 18; refine (jrnI_any _ _ A3 c3 s (by unfold maxLen; omega) (Nat.le_refl _) HOR.out.ev).mono ?_; rintro e w5 ⟨rfl, hb5⟩; rw [HV.out]))
  go_ret2
  rw [mergeE_no HN.out HV.out]
  exact ⟨none, 0, Nat.le_refl _, rfl, .inl rfl, bthen (bthen (bthen hb1 hb2) hb3) hb5⟩
set_option maxRecDepth 100000 in
set_option maxHeartbeats 4000000 in
theorem mergeI_yes (w : World) (B B2 : Nat) (A A2 : Option Addr) (c c2 : Nat) (l m : List Ev) (ad : Addr) (hl : l.length ≤ 1048576) (hm : m.length ≤ 1048576) (hB : B ≤ w.heap.size) (hB2 : B2 ≤ w.heap.size) (hS : evL w B A l) (hS2 : evL w B2 A2 m) (hE : ErrV w ad) (hq : jrnB l = true) (hq2 : jrnB m = true) (s : List Ev) (hn : mrgL l m = some s) (hv : jrnB s = true) : Calls Tryd.prog 12 #[.slice A l.length c, .slice A2 m.length c2] w (AnsE2 (mergeE l m) w) := by
  have HQ := Lib.hid hq; have HQ2 := Lib.hid hq2; clear hq hq2
  have HN := Lib.hid hn; have HV := Lib.hid hv; clear hn hv
  have hlm : l.length ≤ maxLen := by unfold maxLen; omega
  have hmm : m.length ≤ maxLen := by unfold maxLen; omega
  have HLM := Lib.hid hlm; have HMM := Lib.hid hmm; unfold maxLen at hlm hmm
  have HS := Lib.hid hS; have HS2 := Lib.hid hS2; have HE := Lib.hid hE; clear hS hS2 hE
  go_enter Tryd.func12, Tryd.ntmps12
  go_wp2_with (first | (go_at_call 18; (with_reducible refine (jrnI_any _ B A c l HLM.out hB HS.out).mono ?_); rintro e w1 ⟨rfl, hb1⟩; rw [HQ.out]) | (go_at_call 18; (with_reducible refine (jrnI_any _ B2 A2 c2 m HMM.out (by have := hb1.size; omega) (HS2.out.later hB2 hb1)).mono ?_); rintro e w2 ⟨rfl, hb2⟩; rw [HQ2.out]) | (go_at_call 21; refine (unite_some _ B B2 A A2 c c2 l m ad hl hm (by have := hb1.size; have := hb2.size; omega) (by have := hb1.size; have := hb2.size; omega) ((HS.out.later hB hb1).later (by have := hb1.size; omega) hb2) ((HS2.out.later hB2 hb1).later (by have := hb1.size; omega) hb2) ((HE.out.below hb1).below hb2) HQ.out HQ2.out s HN.out).mono ?_; rintro e w3 ⟨A3, c3, rfl, hcap, hsl, hor, hb3⟩; have hg3 : w3.cell? ⟨0, 0, none⟩ = some (.iface 108 (.pointer (some ad))) := ((HE.out.below hb1).below hb2).below hb3; have hgl3 := World.block_lt_of_cell? _ _ hg3; have HOR := Lib.hid hor; clear hor) | (go_at_call 22; refine (isNil8 ad _).mono ?_; rintro e w4 ⟨rfl, hw4⟩; rw [hw4]; clear hw4 w4) | (go_at_call 18; refine (jrnI_any _ _ A3 c3 s (by unfold maxLen; omega) (Nat.le_refl _) HOR.out.ev).mono ?_; rintro e w5 ⟨rfl, hb5⟩; rw [HV.out]))
  go_ret2
  rw [mergeE_yes HQ.out HQ2.out HN.out HV.out]
  exact ⟨A3, c3, hcap, rfl, (HOR.out.more (by have := hb1.size; have := hb2.size; omega)).below hb5, bthen (bthen (bthen hb1 hb2) hb3) hb5⟩
theorem mergeI_any (w : World) (B B2 : Nat) (A A2 : Option Addr) (c c2 : Nat) (l m : List Ev) (ad : Addr) (hl : l.length ≤ 1048576) (hm : m.length ≤ 1048576) (hB : B ≤ w.heap.size) (hB2 : B2 ≤ w.heap.size) (hS : evL w B A l) (hS2 : evL w B2 A2 m) (hE : ErrV w ad) : Calls Tryd.prog 12 #[.slice A l.length c, .slice A2 m.length c2] w (AnsE2 (mergeE l m) w) := by
  cases hq : jrnB l
  · exact mergeI_bad1 w B B2 A A2 c c2 l m ad hl hm hB hB2 hS hS2 hE hq
  cases hq2 : jrnB m
  · exact mergeI_bad2 w B B2 A A2 c c2 l m ad hl hm hB hB2 hS hS2 hE hq hq2
  cases hn : mrgL l m with
  | none => exact mergeI_none w B B2 A A2 c c2 l m ad hl hm hB hB2 hS hS2 hE hq hq2 hn
  | some s =>
    cases hv : jrnB s
    · exact mergeI_no w B B2 A A2 c c2 l m ad hl hm hB hB2 hS hS2 hE hq hq2 s hn hv
    · exact mergeI_yes w B B2 A A2 c c2 l m ad hl hm hB hB2 hS hS2 hE hq hq2 s hn hv
end Go.Proofs.YtdcejkompdbliaaDoor
