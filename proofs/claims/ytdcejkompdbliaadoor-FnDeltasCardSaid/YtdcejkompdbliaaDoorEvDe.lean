/- Chapter 8: what the law FnDeltas says: plain facts. -/
import Derived.Test.YtdcejkompdbliaaDoorEvMz
import Derived.Test.YtdcejkompdbliaaDoorEvMy
import Derived.Test.YtdcejkompdbliaaDoorEvZ
import Derived.Test.YtdcejkompdbliaaDoorEvD
namespace Go.Proofs.YtdcejkompdbliaaDoor
open Go.RowKit
set_option linter.unusedVariables false
def knw (l : List Ev) (nd : Int) : Int := knK l nd l.length
theorem knw_has {l : List Ev} (h : jrnB l = true) {nd j : Int} (h1 : 1 ≤ j) (h2 : j ≤ knw l nd) : ∃ x ∈ l, x.nod = nd ∧ x.seq = j := by
  have := (knK_is h nd l.length (Nat.le_refl _)).2.2.1 j h1 h2
  rwa [List.take_length] at this
theorem knw_next {l : List Ev} (h : jrnB l = true) (nd : Int) : 0 ≤ knw l nd ∧ ¬ ∃ x ∈ l, x.nod = nd ∧ x.seq = knw l nd + 1 := by
  have := knK_is h nd l.length (Nat.le_refl _)
  refine ⟨this.1, ?_⟩
  have h2 := this.2.2.2
  rwa [List.take_length] at h2
theorem newE_known {a : List Ev} (ha : jrnB a = true) {e : Ev} (he : 0 ≤ e.nod ∧ e.nod ≤ 5) : newE (knownE a) e = decide (knw a e.nod < e.seq) := by
  unfold newE
  obtain ⟨i, hi⟩ := Int.eq_ofNat_of_zero_le he.1
  rw [knownE_good ha, hi, Int.toNat_natCast, knL_at a a.length (show i < 6 by omega)]
  rfl
theorem delta_is {a b : List Ev} (ha : jrnB a = true) (hb : jrnB b = true) : deltaE b (knownE a) = b.filter (newE (knownE a)) := by
  unfold deltaE; rw [hb, knownE_good ha, knL_len]; rfl
theorem jrn_sub {l m : List Ev} (h : jrnB l = true) (hs : m.Sublist l) : jrnB m = true := by
  rw [jrn_iff] at h ⊢
  exact ⟨Nat.le_trans hs.length_le h.1, fun x hx => h.2.1 x (hs.subset hx), h.2.2.sublist hs⟩
theorem delta_jrn {a b : List Ev} (hb : jrnB b = true) : jrnB (deltaE b (knownE a)) = true := jrn_sub hb deltaE_sub
theorem delta_mem {a b : List Ev} (ha : jrnB a = true) (hb : jrnB b = true) (z : Ev) : z ∈ deltaE b (knownE a) ↔ z ∈ b ∧ knw a z.nod < z.seq := by
  rw [delta_is ha hb, List.mem_filter]
  constructor
  · rintro ⟨h1, h2⟩
    have he := (evB_facts (jrn_ev hb h1)).1
    rw [newE_known ha he, decide_eq_true_eq] at h2
    exact ⟨h1, h2⟩
  · rintro ⟨h1, h2⟩
    have he := (evB_facts (jrn_ev hb h1)).1
    exact ⟨h1, by rw [newE_known ha he, decide_eq_true_eq]; exact h2⟩
/-- what the other side does not know is enough -/
theorem delta_merge {a b l : List Ev} (h : mergeE a b = (l, true)) : mergeE a (deltaE b (knownE a)) = (l, true) := by
  obtain ⟨ja, jb, mab, jl⟩ := mergeE_iff.1 h
  have gab := some_agr (jrn_srt ja) (jrn_srt jb) mab
  have jd : jrnB (deltaE b (knownE a)) = true := delta_jrn jb
  refine mergeE_yes ja jd (mrgL_told (jrn_srt ja) (jrn_srt jd) (agr_sub gab (fun _ h => h) (fun z hz => ((delta_mem ja jb z).1 hz).1)) (jrn_srt jl) fun z => ?_) jl
  rw [mrgL_mem mab z]
  constructor
  · rintro (hz | hz)
    · exact .inl hz
    · by_cases hk : knw a z.nod < z.seq
      · exact .inr ((delta_mem ja jb z).2 ⟨hz, hk⟩)
      · have hs := (evB_facts (jrn_ev jb hz)).2.1
        obtain ⟨x, hx, h1, h2⟩ := knw_has ja (nd := z.nod) (j := z.seq) (by omega) (by omega)
        have := gab x hx z hz h1 h2
        subst this; exact .inl hx
  · rintro (hz | hz)
    · exact .inl hz
    · exact .inr ((delta_mem ja jb z).1 hz).1
theorem delta_merge2 {a b l : List Ev} (h : mergeE a b = (l, true)) : mergeE (deltaE a (knownE b)) b = (l, true) := by
  rw [mergeE_comm]; exact delta_merge (by rw [mergeE_comm]; exact h)
theorem knw_mono {a l : List Ev} (ha : jrnB a = true) (hl : jrnB l = true) (hs : ∀ z, z ∈ a → z ∈ l) (nd : Int) : knw a nd ≤ knw l nd := by
  rcases Int.lt_or_le (knw l nd) (knw a nd) with h | h
  · have h0 := (knw_next hl nd).1
    obtain ⟨x, hx, h1, h2⟩ := knw_has ha (nd := nd) (j := knw l nd + 1) (by omega) (by omega)
    exact absurd ⟨x, hs x hx, h1, h2⟩ (knw_next hl nd).2
  · exact h
theorem full_merge {a b l : List Ev} (ha : FullE a) (hb : FullE b) (h : mrgL a b = some l) : FullE l := by
  intro e he s h1 h2
  rcases (mrgL_mem h e).1 he with h3 | h3
  · obtain ⟨x, hx, h4⟩ := ha e h3 s h1 h2
    exact ⟨x, (mrgL_mem h x).2 (.inl hx), h4⟩
  · obtain ⟨x, hx, h4⟩ := hb e h3 s h1 h2
    exact ⟨x, (mrgL_mem h x).2 (.inr hx), h4⟩
theorem full_none {l : List Ev} (hl : jrnB l = true) (h : FullE l) : deltaE l (knownE l) = [] := by
  apply List.eq_nil_iff_forall_not_mem.2
  intro z hz
  obtain ⟨h1, h2⟩ := (delta_mem hl hl z).1 hz
  have h0 := knw_next hl z.nod
  obtain ⟨x, hx, h3, h4⟩ := h z h1 (knw l z.nod + 1) (by omega) (by omega)
  exact h0.2 ⟨x, hx, h3, h4⟩
end Go.Proofs.YtdcejkompdbliaaDoor
