
/- Chapter 5: rights: plain facts: chains of grants by levels, and the search from the person back. -/
import Derived.Test.YtjpkpfmpjgeeiaaGreatQ01
import Derived.WalkSpells
import Derived.OwnWalk
import Derived.Test.YtjpkpfmpjgeeiaaGreatQ12
namespace Go.Proofs.YtjpkpfmpjgeeiaaGreat
open Go.RowKit
set_option linter.unusedVariables false

structure Gr where
  frm : Int
  to : Int
  par : Int
  dep : Int
  sta : Int
  fin : Int
  off : Bool
def zeroG : Gr := ⟨0, 0, 0, 0, 0, 0, false⟩
def perB (n : Int) : Bool := inR n 1 40
def timB (n : Int) : Bool := inR n 0 20000
def grantB (g : Gr) : Bool := perB g.frm && perB g.to && (g.frm != g.to) && inR g.par 0 999 && inR g.dep 0 5 && timB g.sta && timB g.fin && decide (g.sta < g.fin)
def grantsB (l : List Gr) : Bool := decide (l.length ≤ 30) && l.all grantB
def appB (p t : Int) (g : Gr) : Bool := grantB g && !g.off && (g.par == 0 || g.par == p) && decide (g.sta ≤ t) && decide (t < g.fin)
theorem grantB_facts {g : Gr} (h : grantB g = true) : (1 ≤ g.frm ∧ g.frm ≤ 40) ∧ (1 ≤ g.to ∧ g.to ≤ 40) ∧ (0 ≤ g.dep ∧ g.dep ≤ 5) ∧ (0 ≤ g.sta ∧ g.sta ≤ 20000) ∧ (0 ≤ g.fin ∧ g.fin ≤ 20000) := by
  simp only [grantB, perB, timB, Bool.and_eq_true, inR_iff] at h
  omega
theorem appB_ok {p t : Int} {g : Gr} (h : appB p t g = true) : grantB g = true := by
  simp only [appB, Bool.and_eq_true] at h; exact h.1.1.1.1
/-- a chain of h grants leads from x to who, with so much depth to spare -/
def rhB (l : List Gr) (p t sp who : Int) : Nat → Int → Bool
  | 0, x => x == who
  | h + 1, x => l.any fun g => appB p t g && decide ((h : Int) + sp ≤ g.dep) && (g.frm == x) && rhB l p t sp who h g.to
section
variable {l : List Gr} {p t sp who : Int}
theorem rh_zero {x : Int} : rhB l p t sp who 0 x = true ↔ x = who := by simp [rhB]
theorem rh_succ {h : Nat} {x : Int} : rhB l p t sp who (h + 1) x = true ↔ ∃ g ∈ l, appB p t g = true ∧ (h : Int) + sp ≤ g.dep ∧ g.frm = x ∧ rhB l p t sp who h g.to = true := by
  simp only [rhB, List.any_eq_true, Bool.and_eq_true, decide_eq_true_eq, beq_iff_eq]
  constructor
  · rintro ⟨g, hg, ⟨⟨h1, h2⟩, h3⟩, h4⟩; exact ⟨g, hg, h1, h2, h3, h4⟩
  · rintro ⟨g, hg, h1, h2, h3, h4⟩; exact ⟨g, hg, ⟨⟨h1, h2⟩, h3⟩, h4⟩
theorem rh_le {h : Nat} {x : Int} (h0 : 0 ≤ sp) (hr : rhB l p t sp who h x = true) : h ≤ 6 := by
  rcases h with _ | h
  · omega
  · obtain ⟨g, _, h1, h2, _, _⟩ := rh_succ.1 hr
    have := (grantB_facts (appB_ok h1)).2.2.1
    omega
theorem rh_person {h : Nat} {x : Int} (hw : 1 ≤ who ∧ who ≤ 40) (hr : rhB l p t sp who h x = true) : 1 ≤ x ∧ x ≤ 40 := by
  rcases h with _ | h
  · rw [rh_zero.1 hr]; exact hw
  · obtain ⟨g, _, h1, h2, rfl, _⟩ := rh_succ.1 hr
    exact (grantB_facts (appB_ok h1)).1
end
/-- a partial map of persons -/
abbrev PM := Int → Option Int
def pset (f : PM) (x v : Int) : PM := fun y => if y = x then some v else f y
def pdel (f : PM) (x : Int) : PM := fun y => if y = x then none else f y
theorem pset_same (f : PM) (x v : Int) : pset f x v x = some v := by simp [pset]
theorem pset_other (f : PM) {x y : Int} (v : Int) (h : y ≠ x) : pset f x v y = f y := by simp [pset, h]
theorem pdel_same (f : PM) (x : Int) : pdel f x x = none := by simp [pdel]
theorem pdel_other (f : PM) {x y : Int} (h : y ≠ x) : pdel f x y = f y := by simp [pdel, h]
/-- the steps that were counted: to each person from whom a chain leads, the least number of grants -/
structure Steps (l : List Gr) (p t sp who : Int) (S : PM) : Prop where
  snd : ∀ x v, S x = some v → ∃ h : Nat, v = (h : Int) ∧ rhB l p t sp who h x = true
  cmp : ∀ (h : Nat) x, rhB l p t sp who h x = true → ∃ v, S x = some v ∧ v ≤ (h : Int)
/-- the search: S those who were followed back, Q those who were reached; y's givers are at hand up to those in G -/
structure Bfs (l : List Gr) (p t sp who : Int) (S Q : PM) (m y : Int) (G : List Int) : Prop where
  snd : ∀ x v, (S x = some v ∨ Q x = some v) → ∃ h : Nat, v = (h : Int) ∧ rhB l p t sp who h x = true
  cls : ∀ z v, S z = some v → z ≠ y → ∀ g ∈ l, appB p t g = true → g.to = z → v + sp ≤ g.dep → ∃ u, (S g.frm = some u ∨ Q g.frm = some u) ∧ u ≤ v + 1
  part : ∀ x ∈ G, ∃ u, (S x = some u ∨ Q x = some u) ∧ u ≤ m + 1
  loS : ∀ x v, S x = some v → v ≤ m
  loQ : ∀ x v, Q x = some v → m ≤ v ∧ v ≤ m + 1
  dis : ∀ x, S x = none ∨ Q x = none
  src : ∃ u, (S who = some u ∨ Q who = some u) ∧ u ≤ 0
section
variable {l : List Gr} {p t sp who : Int} {S Q : PM} {m y : Int} {G : List Int}
/-- the nearest one is taken -/
theorem Bfs.take (h : Bfs l p t sp who S Q m y G) (hy : ∀ z v, S z = some v → z = y → ∀ g ∈ l, appB p t g = true → g.to = z → v + sp ≤ g.dep → ∃ u, (S g.frm = some u ∨ Q g.frm = some u) ∧ u ≤ v + 1)
    {x b : Int} (hx : Q x = some b) (hmin : ∀ z v, Q z = some v → b ≤ v) : Bfs l p t sp who (pset S x b) (pdel Q x) b x [] where
  snd := fun z v hz => by
    by_cases e : z = x
    · subst e; rw [pset_same, pdel_same] at hz
      rcases hz with hz | hz
      · injection hz with hz; subst hz; exact h.snd z b (.inr hx)
      · cases hz
    · rw [pset_other _ _ e, pdel_other _ e] at hz; exact h.snd z v hz
  cls := fun z v hz hne g hg ha ht hd => by
    rw [pset_other _ _ hne] at hz
    obtain ⟨u, hu, hle⟩ : ∃ u, (S g.frm = some u ∨ Q g.frm = some u) ∧ u ≤ v + 1 := by
      by_cases e : z = y
      · exact hy z v hz e g hg ha ht hd
      · exact h.cls z v hz e g hg ha ht hd
    by_cases e : g.frm = x
    · refine ⟨b, .inl (by rw [e, pset_same]), ?_⟩
      rcases hu with hu | hu
      · rcases h.dis g.frm with h1 | h1
        · rw [h1] at hu; cases hu
        · rw [e, hx] at h1; cases h1
      · rw [e, hx] at hu; injection hu with hu; omega
    · refine ⟨u, ?_, hle⟩; rw [pset_other _ _ e, pdel_other _ e]; exact hu
  part := fun x hx => by cases hx
  loS := fun z v hz => by
    by_cases e : z = x
    · subst e; rw [pset_same] at hz; injection hz with hz; omega
    · rw [pset_other _ _ e] at hz; have := h.loS z v hz; have := (h.loQ x b hx).1; omega
  loQ := fun z v hz => by
    by_cases e : z = x
    · subst e; rw [pdel_same] at hz; cases hz
    · rw [pdel_other _ e] at hz; have := h.loQ z v hz; have := (h.loQ x b hx).1; have := hmin z v hz; omega
  dis := fun z => by
    by_cases e : z = x
    · subst e; right; exact pdel_same _ _
    · rw [pset_other _ _ e, pdel_other _ e]; exact h.dis z
  src := by
    obtain ⟨u, hu, hle⟩ := h.src
    by_cases e : who = x
    · refine ⟨b, .inl (by rw [e, pset_same]), ?_⟩
      rcases hu with hu | hu
      · rcases h.dis who with h1 | h1
        · rw [h1] at hu; cases hu
        · rw [e, hx] at h1; cases h1
      · rw [e, hx] at hu; injection hu with hu; omega
    · refine ⟨u, ?_, hle⟩; rw [pset_other _ _ e, pdel_other _ e]; exact hu
/-- a giver who is there already -/
theorem Bfs.skip (h : Bfs l p t sp who S Q m y G) {x : Int} (hx : S x ≠ none ∨ Q x ≠ none) : Bfs l p t sp who S Q m y (G ++ [x]) where
  snd := h.snd
  cls := h.cls
  part := fun z hz => by
    rcases List.mem_append.1 hz with hz | hz
    · exact h.part z hz
    · obtain rfl : z = x := by simpa using hz
      rcases hx with hx | hx
      · obtain ⟨u, hu⟩ := Option.ne_none_iff_exists'.1 hx
        exact ⟨u, .inl hu, by have := h.loS z u hu; omega⟩
      · obtain ⟨u, hu⟩ := Option.ne_none_iff_exists'.1 hx
        exact ⟨u, .inr hu, (h.loQ z u hu).2⟩
  loS := h.loS
  loQ := h.loQ
  dis := h.dis
  src := h.src
/-- a giver who is new -/
theorem Bfs.add (h : Bfs l p t sp who S Q m y G) {x : Int} (hS : S x = none) (hQ : Q x = none) (hy : S y = some m) (hg : ∃ g ∈ l, appB p t g = true ∧ g.to = y ∧ m + sp ≤ g.dep ∧ g.frm = x) : Bfs l p t sp who S (pset Q x (m + 1)) m y (G ++ [x]) where
  snd := fun z v hz => by
    by_cases e : z = x
    · subst e; rw [pset_same] at hz
      rcases hz with hz | hz
      · rw [hS] at hz; cases hz
      · injection hz with hz; subst hz
        obtain ⟨k, hk, hr⟩ := h.snd y m (.inl hy)
        obtain ⟨g, hg1, ha, ht, hd, hf⟩ := hg
        exact ⟨k + 1, by omega, rh_succ.2 ⟨g, hg1, ha, by omega, hf, by rw [ht]; exact hr⟩⟩
    · rw [pset_other _ _ e] at hz; exact h.snd z v hz
  cls := fun z v hz hne g hg ha ht hd => by
    obtain ⟨u, hu, hle⟩ := h.cls z v hz hne g hg ha ht hd
    refine ⟨u, ?_, hle⟩
    rcases hu with hu | hu
    · exact .inl hu
    · right; rw [pset_other]; exact hu
      intro e; rw [e, hQ] at hu; cases hu
  part := fun z hz => by
    by_cases e : z = x
    · subst e; exact ⟨m + 1, .inr (pset_same _ _ _), Int.le_refl _⟩
    · rcases List.mem_append.1 hz with hz | hz
      · obtain ⟨u, hu, hle⟩ := h.part z hz
        exact ⟨u, by rw [pset_other _ _ e]; exact hu, hle⟩
      · exact absurd (by simpa using hz) e
  loS := h.loS
  loQ := fun z v hz => by
    by_cases e : z = x
    · subst e; rw [pset_same] at hz; injection hz with hz; omega
    · rw [pset_other _ _ e] at hz; exact h.loQ z v hz
  dis := fun z => by
    by_cases e : z = x
    · subst e; exact .inl hS
    · rw [pset_other _ _ e]; exact h.dis z
  src := by
    obtain ⟨u, hu, hle⟩ := h.src
    refine ⟨u, ?_, hle⟩
    rcases hu with hu | hu
    · exact .inl hu
    · right; rw [pset_other]; exact hu
      intro e; rw [e, hQ] at hu; cases hu
theorem Bfs.done (h : Bfs l p t sp who S Q m y G) (hy : ∀ z v, S z = some v → z = y → ∀ g ∈ l, appB p t g = true → g.to = z → v + sp ≤ g.dep → ∃ u, (S g.frm = some u ∨ Q g.frm = some u) ∧ u ≤ v + 1)
    (hQ : ∀ x, Q x = none) : Steps l p t sp who S where
  snd := fun x v hx => h.snd x v (.inl hx)
  cmp := fun k => by
    induction k with
    | zero =>
      intro x hx
      rw [rh_zero.1 hx]
      obtain ⟨u, hu, hle⟩ := h.src
      rcases hu with hu | hu
      · exact ⟨u, hu, by omega⟩
      · rw [hQ] at hu; cases hu
    | succ k ih =>
      intro x hx
      obtain ⟨g, hg, ha, hd, rfl, hr⟩ := rh_succ.1 hx
      obtain ⟨v, hv, hle⟩ := ih g.to hr
      obtain ⟨u, hu, hle'⟩ : ∃ u, (S g.frm = some u ∨ Q g.frm = some u) ∧ u ≤ v + 1 := by
        by_cases e : g.to = y
        · exact hy g.to v hv e g hg ha rfl (by omega)
        · exact h.cls g.to v hv e g hg ha rfl (by omega)
      rcases hu with hu | hu
      · exact ⟨u, hu, by omega⟩
      · rw [hQ] at hu; cases hu
theorem Bfs.person (h : Bfs l p t sp who S Q m y G) (hw : 1 ≤ who ∧ who ≤ 40) {x v : Int} (hx : S x = some v ∨ Q x = some v) : 1 ≤ x ∧ x ≤ 40 := by
  obtain ⟨k, _, hr⟩ := h.snd x v hx
  exact rh_person hw hr
theorem Bfs.val (h : Bfs l p t sp who S Q m y G) (h0 : 0 ≤ sp) {x v : Int} (hx : S x = some v ∨ Q x = some v) : 0 ≤ v ∧ v ≤ 6 := by
  obtain ⟨k, rfl, hr⟩ := h.snd x v hx
  have := rh_le h0 hr; omega
end
/-- the list with the grants in force; in place of each other one stands the zero grant -/
def forceL (p t : Int) (l : List Gr) : List Gr := l.map fun g => if appB p t g then g else zeroG
def giversL (F : List Gr) (y d : Int) : List Int := (F.filter fun g => g.to == y && decide (d ≤ g.dep)).map Gr.frm
/-- the least number of grants of a chain -/
def shortB (l : List Gr) (p t sp who owner : Int) : Option Nat := (List.range 7).find? fun h => rhB l p t sp who h owner
/-- the grant with which the chain goes on -/
def chP (l : List Gr) (p t who : Int) (h : Nat) (x : Int) (g : Gr) : Bool := (g.frm == x) && appB p t g && decide ((h : Int) ≤ g.dep) && rhB l p t 0 who h g.to
def chainL (l : List Gr) (p t who : Int) : Nat → Int → List Int
  | 0, _ => []
  | h + 1, x => match l.findIdx? (chP l p t who h x) with
    | some i => (i : Int) :: chainL l p t who h ((l[i]?).getD zeroG).to
    | none => chainL l p t who h x
/-- what the program's own test asks of a grant in force -/
def fgP (S : PM) (x : Int) (g : Gr) : Bool := match S g.to with
  | some b => (g.frm == x) && decide (b ≤ g.dep) && (S x == some (b + 1))
  | none => false
def goodB (l : List Gr) (owner who p t : Int) : Bool := grantsB l && perB owner && perB who && inR p 1 999 && timB t
/-- the chain: its indices, if there is one -/
def chainA (l : List Gr) (owner who p t : Int) : Option (List Int) :=
  if goodB l owner who p t then (shortB l p t 0 who owner).map fun h => chainL l p t who h owner else none
def mayB (l : List Gr) (owner who p t : Int) : Bool := goodB l owner who p t && (shortB l p t 0 who owner).isSome
end Go.Proofs.YtjpkpfmpjgeeiaaGreat
