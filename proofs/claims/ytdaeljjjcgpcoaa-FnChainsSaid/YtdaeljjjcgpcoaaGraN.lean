/- Chapter 5: the walk of nearest: a range over a map, with look-ups in that map. -/
import Derived.Test.YtdaeljjjcgpcoaaGraF
import Derived.Outline
namespace Go.Proofs.Ytdaeljjjcgpcoaa
open Go.RowKit Go.Maps
set_option linter.unusedVariables false

def Near (Q : PM) (w : World) (e : Ending) (w' : World) : Prop := ∃ x v, e = .returned (.int .i64 x) ∧ Q x = some v ∧ (∀ z u, Q z = some u → v ≤ u) ∧ Below w.heap.size w w'
def PQ (Q : PM) : Prop := ∀ x c, Q x = some c → (1 ≤ x ∧ x ≤ 40) ∧ (0 ≤ c ∧ c ≤ 6)
/-- the best of those that have come -/
def NB (Q : PM) (best : Int) (left : Lit → Bool) : Prop :=
  (best = 0 ∧ ∀ z u, Q z = some u → left (.int .i64 z) = true) ∨ (1 ≤ best ∧ ∃ v, Q best = some v ∧ ∀ z u, Q z = some u → left (.int .i64 z) = false → v ≤ u)
theorem nb_take {Q : PM} {best x c : Int} {left : Lit → Bool} (h : NB Q best left) (h1 : 1 ≤ x) (hx : Q x = some c) (hle : best = 0 ∨ ∀ v, Q best = some v → c ≤ v) : NB Q x fun z => left z && !z.sameKey (.int .i64 x) := by
  refine .inr ⟨h1, c, hx, fun z u hz hl => ?_⟩
  by_cases e : z = x
  · subst e; rw [hx] at hz; injection hz with hz; omega
  · have hs : (Lit.int .i64 z).sameKey (.int .i64 x) = false := sameKey_ne (litNe e)
    dsimp only at hl; rw [hs] at hl
    simp at hl
    rcases h with ⟨h0, h2⟩ | ⟨h0, v, hv, h2⟩
    · rw [h2 z u hz] at hl; cases hl
    · have := h2 z u hz hl
      rcases hle with h3 | h3
      · omega
      · have := h3 v hv; omega
theorem nb_keep {Q : PM} {best x c v : Int} {left : Lit → Bool} (h : NB Q best left) (h1 : 1 ≤ best) (hb : Q best = some v) (hx : Q x = some c) (hle : v ≤ c) : NB Q best fun z => left z && !z.sameKey (.int .i64 x) := by
  refine .inr ⟨h1, v, hb, fun z u hz hl => ?_⟩
  by_cases e : z = x
  · subst e; rw [hx] at hz; injection hz with hz; omega
  · have hs : (Lit.int .i64 z).sameKey (.int .i64 x) = false := sameKey_ne (litNe e)
    dsimp only at hl; rw [hs] at hl
    simp at hl
    rcases h with ⟨h0, h2⟩ | ⟨h0, v', hv, h2⟩
    · omega
    · rw [hb] at hv; injection hv with hv; have := h2 z u hz hl; omega
theorem nb_end {Q : PM} {best : Int} {left : Lit → Bool} (h : NB Q best left) (hl : ∀ kl, left kl = false) (hne : ∃ x c, Q x = some c) : ∃ v, Q best = some v ∧ ∀ z u, Q z = some u → v ≤ u := by
  rcases h with ⟨_, h2⟩ | ⟨_, v, hv, h2⟩
  · obtain ⟨x, c, hx⟩ := hne; have := h2 x c hx; rw [hl] at this; cases this
  · exact ⟨v, hv, fun z u hz => h2 z u hz (hl _)⟩
set_option maxRecDepth 100000 in
set_option maxHeartbeats 4000000 in
theorem near_any (w : World) (b n : Nat) (Q : PM) (h : MI w b n Q) (hne : ∃ x c, Q x = some c) (hp : PQ Q) : Calls Try.prog 32 #[.map (some b)] w (Near Q w) := by
  obtain ⟨D, hown, hD⟩ := h
  have hblt := hown.lt
  have HD := Lib.hid hD; have HNE := Lib.hid hne; have HP := Lib.hid hp; clear hD hne hp
  go_enter Try.func32, Try.ntmps32
  go_wp2_with (at_range; refine wpList_range_own _ rfl _ 39 rfl 3 3 lawI Try.underlying39 _ b n _ rfl hown ?_; intro w0 hrg0 hg0 hs0)
  go_frame
  go_loopw [3] (fun v wr => ∃ (best : Int) (left : Lit → Bool) (cnt : Nat), v = .int .i64 best ∧ NB Q best left ∧ wr.ranges Try.prog 3 (plainElem Try.prog 3) b w.heap.size n D left cnt ∧ Below w.heap.size w wr)
    (fun _ wr => wr.rangeLeft b w.heap.size)
  case atStart =>
    refine ⟨0, _, _, rfl, .inl ⟨rfl, fun z u hz => ?_⟩, hrg0, ⟨hg0.os, hg0.tape, hg0.output, hg0.size, fun k hk => hg0.block k hk (by simp)⟩⟩
    rw [HD.out.has, hz]; rfl
  case round =>
    obtain ⟨best, left, cnt, rfl, hnb, hrg, hb⟩ := hrel
    have HNB := Lib.hid hnb; clear hnb
    have hsz := hb.size
    go_wp2_with (at_next; refine wpList_next_ranges_ii _ rfl _ rfl 3 3 .i64 .i64 lawI Try.underlying3 Try.underlying3 b w.heap.size n _ _ _ rfl hrg ?_ ?_)
    · intro _ hl0
      have HL := Lib.hid hl0; clear hl0
      go_wp2
      go_ret
      obtain ⟨v, hv, hm⟩ := nb_end HNB.out HL.out HNE.out
      exact ⟨best, v, rfl, hv, hm, hb⟩
    · intro x c w1 cnt1 hwx hwc hlx hat hrg1 hlt hg1 hs1 hen
      have hb1 : Below w.heap.size w w1 := hb.grown hg1 hsz (fun k hk => by injection hk with hk; omega)
      have hM : MI w1 b n Q := ⟨D, hrg1.owns, HD.out⟩
      have hxc : Q x = some c := by
        have h1 : Maps.has D (.int .i64 x) = true := has_true_of_atKey hat
        rw [HD.out.has] at h1
        obtain ⟨c', hc'⟩ := Option.isSome_iff_exists.1 h1
        have h2 := hat (.lit (.int .i64 0))
        rw [HD.out.val x c' hc'] at h2
        injection h2 with h2; injection h2 with _ h2
        rw [hc', h2]
      have hpx := HP.out x c hxc
      have HXC := Lib.hid hxc; have HB1 := Lib.hid hb1; have HHB := Lib.hid hb; clear hxc hb1 hb hat hlx
      have HR1 := Lib.hid hrg1; have HR := Lib.hid hrg; clear hrg1 hrg
      have hmeas : w1.rangeLeft b w.heap.size < wr.rangeLeft b w.heap.size := by rw [HR1.out.left_eq, HR.out.left_eq]; exact hlt
      have HM := Lib.hid hmeas; clear hmeas hlt
      by_cases h0 : best = 0
      · subst h0
        go_wp2
        go_roundw
        case rel => exact ⟨x, _, cnt1, rfl, nb_take HNB.out hpx.1.1 HXC.out (.inl rfl), HR1.out, HB1.out⟩
        case measure => exact HM.out
      · have e0 : (best == 0) = false := by simp [h0]
        obtain ⟨v, hv, h1⟩ : ∃ v, Q best = some v ∧ 1 ≤ best := by
          rcases HNB.out with ⟨h2, _⟩ | ⟨h2, v, hv, _⟩
          · exact absurd h2 h0
          · exact ⟨v, hv, h2⟩
        have hpb := HP.out best v hv
        have hgd : (Q best).getD 0 = v := by rw [hv]; rfl
        have hrun := mi_run hM best (by omega)
        rw [hgd] at hrun
        have HV := Lib.hid hv; have HMM := Lib.hid hM; clear hv hgd hM
        by_cases h2 : c < v
        · go_wp2
          go_roundw
          case rel => exact ⟨x, _, cnt1, rfl, nb_take HNB.out hpx.1.1 HXC.out (.inr fun u hu => by rw [HV.out] at hu; injection hu with hu; omega), HR1.out, HB1.out⟩
          case measure => exact HM.out
        · by_cases h3 : c = v ∧ x < best
          · obtain ⟨h3, h4⟩ := h3
            have e3 : (c == v) = true := by simp [h3]
            have H3 := Lib.hid h3; clear h3
            go_wp2
            go_roundw
            case rel => exact ⟨x, _, cnt1, rfl, nb_take HNB.out hpx.1.1 HXC.out (.inr fun u hu => by rw [HV.out] at hu; injection hu with hu; have := H3.out; omega), HR1.out, HB1.out⟩
            case measure => exact HM.out
          · by_cases h4 : c = v
            · have h5 : ¬ x < best := fun h => h3 ⟨h4, h⟩
              have e3 : (c == v) = true := by simp [h4]
              have H3 := Lib.hid h3; have H4 := Lib.hid h4; clear h3 h4
              go_wp2
              go_roundw
              case rel => exact ⟨best, _, cnt1, rfl, nb_keep HNB.out h1 HV.out HXC.out (by have := H4.out; omega), HR1.out, HB1.out⟩
              case measure => exact HM.out
            · have e3 : (c == v) = false := by simp [h4]
              have H3 := Lib.hid h3; have H4 := Lib.hid h4; clear h3 h4
              go_wp2
              go_roundw
              case rel => exact ⟨best, _, cnt1, rfl, nb_keep HNB.out h1 HV.out HXC.out (by have := H4.out; omega), HR1.out, HB1.out⟩
              case measure => exact HM.out
end Go.Proofs.Ytdaeljjjcgpcoaa
