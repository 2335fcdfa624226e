/- Chapter 1: SplitFields: the plain facts, and the model's. -/
import Derived.Test.YtlajniepjnhfcaaDoorStrR
import Derived.Test.YtlajniepjnhfcaaDoorOwn
namespace Go.Proofs.YtlajniepjnhfcaaDoor
open Go.RowKit
set_option linter.unusedVariables false

def byt (s : ByteArray) (k : Nat) : Int := if h : k < s.size then (s[k].toNat : Int) else 32
theorem byt_at {s : ByteArray} {k : Nat} (h : k < s.size) : byt s k = (s[k].toNat : Int) := by unfold byt; rw [dif_pos h]
theorem byt_end {s : ByteArray} {k : Nat} (h : ¬ k < s.size) : byt s k = 32 := by unfold byt; rw [dif_neg h]
/-- the fields from byte i on; the one that is being read begins at bg -/
def fldF (s : ByteArray) : Nat → Nat → Nat → List ByteArray
  | 0, _, _ => []
  | m + 1, bg, i => if byt s i = 32 then (if bg < i then [s.extract bg i] else []) ++ fldF s m (i + 1) (i + 1) else fldF s m bg (i + 1)
theorem fldF_space {s : ByteArray} {m bg i : Nat} (h : byt s i = 32) : fldF s (m + 1) bg i = (if bg < i then [s.extract bg i] else []) ++ fldF s m (i + 1) (i + 1) := if_pos h
theorem fldF_more {s : ByteArray} {m bg i : Nat} (h : byt s i ≠ 32) : fldF s (m + 1) bg i = fldF s m bg (i + 1) := if_neg h
theorem fldF_len (s : ByteArray) : ∀ (m bg i : Nat), (fldF s m bg i).length ≤ m
  | 0, _, _ => Nat.le_refl _
  | m + 1, bg, i => by
    unfold fldF
    split
    · rw [List.length_append]; have := fldF_len s m (i + 1) (i + 1); split <;> simp <;> omega
    · have := fldF_len s m bg (i + 1); omega
def fldT (s : ByteArray) : List ByteArray := fldF s (s.size + 1) 0 0
def BadT (s : ByteArray) : Prop := ∃ k, k < s.size ∧ (byt s k < 32 ∨ 126 < byt s k)
open Classical in
noncomputable def splV (s : ByteArray) : List ByteArray × Bool := if 600 < s.size ∨ BadT s ∨ 24 < (fldT s).length then ([], false) else (fldT s, true)
theorem splV_no {s : ByteArray} (h : 600 < s.size ∨ BadT s ∨ 24 < (fldT s).length) : splV s = ([], false) := by unfold splV; exact if_pos h
theorem splV_yes {s : ByteArray} (h : ¬ (600 < s.size ∨ BadT s ∨ 24 < (fldT s).length)) : splV s = (fldT s, true) := by unfold splV; exact if_neg h
theorem splV_len (s : ByteArray) : (splV s).1.length ≤ 24 := by
  by_cases h : 600 < s.size ∨ BadT s ∨ 24 < (fldT s).length
  · rw [splV_no h]; simp
  · rw [splV_yes h]; show (fldT s).length ≤ 24; omega
def SplAns (v : List ByteArray × Bool) (w : World) (e : Ending) (w' : World) : Prop := ∃ A' c', e = .returned (.tuple #[.slice A' v.1.length c', .bool v.2]) ∧ OR w' w.heap.size 9 A' (strV v.1) ∧ Below w.heap.size w w'
theorem spl_none {s : ByteArray} {w w' : World} {A : Option Addr} {c : Nat} (h : 600 < s.size ∨ BadT s ∨ 24 < (fldT s).length) (hb : Below w.heap.size w w') : SplAns (splV s) w (.returned (.tuple #[.slice A 0 c, .bool false])) w' := by
  rw [splV_no h]; exact ⟨A, c, rfl, .inl rfl, hb⟩
theorem own_callT {w w' : World} {base : Nat} {e : TypeId} {size n : Nat} {v : Value} {xs : List Value} (h : w.ownsRow base e size v n xs) (hb : Below w.heap.size w w') : w'.ownsRow base e size v n xs := by
  obtain ⟨hlen, h | ⟨g, cap, cur, rfl, h1, h2, h3⟩⟩ := h
  · exact ⟨hlen, .inl h⟩
  · exact ⟨hlen, .inr ⟨g, cap, cur, rfl, h1, (hb.block g (Array.getElem?_eq_some_iff.1 h2).1).trans h2, h3⟩⟩
theorem own_orT {w : World} {base : Nat} {e : TypeId} {A : Option Addr} {xs : List Value} {size n c : Nat} (h : w.ownsRow base e size (.slice A n c) n xs) : OR w base e A xs := by
  obtain ⟨A', c', h1, h2⟩ := or_own h
  injection h1 with h1 _ _; subst h1; exact h2
theorem strInfo : (Tryd.prog.info? 9).map (fun i => (i.zero, i.size, i.bytes)) = some (some (.string ⟨#[]⟩), 1, 16) := by kernel_rfl
theorem addrK (b off i : Nat) : (Addr.mk b off none).add i = ⟨b, off + i, none⟩ := by
  unfold Addr.add
  split
  · rename_i h; subst h; rfl
  · rfl
theorem bytOf_lt (u : UInt8) : 0 ≤ (u.toNat : Int) ∧ (u.toNat : Int) < 256 := by have := u.toNat_lt; omega
theorem src_str {w : World} {g : Nat} {x : ByteArray} {t : TypeId} (h : Has w g t #[.string x]) : Src w (some ⟨g, 0, none⟩) 1 1 [.string x] := by
  refine ⟨rfl, fun u hu => ?_, (fun e => by cases e), fun ad e j u hu => ?_⟩
  · simp at hu; subst hu; rfl
  · injection e with e; subst e
    rw [addrK, Nat.zero_add, cell_of_row w g j _ t (0, 0) h]
    simpa using hu
theorem strV_snoc (l : List ByteArray) (x : ByteArray) : strV (l ++ [x]) = strV l ++ [.string x] := by simp [strV]

set_option maxRecDepth 100000 in
set_option maxHeartbeats 4000000 in
theorem splS_any (w : World) (s : ByteArray) (hs : s.size ≤ maxLen) :
    Calls Tryd.prog 7 #[.string s] w (SplAns (splV s) w) := by
  unfold maxLen at hs
  obtain ⟨j0, hj0, hy0, hy1, hy2⟩ := info_parts strInfo
  by_cases hbig : 600 < s.size
  · go_enter Tryd.func7, Tryd.ntmps7
    go_wp2
    go_ret2
    exact spl_none (.inl hbig) (balloc _ _)
  obtain ⟨V, hV⟩ : ∃ V, fldT s = V := ⟨_, rfl⟩
  have hVl := fldF_len s (s.size + 1) 0 0
  have HV := Lib.hid hV; clear hV
  go_enter Tryd.func7, Tryd.ntmps7
  go_wp2_with fail
  go_loopw [4, 5, 6] (fun ov bv iv wr => ∃ (k bg : Nat) (D : List ByteArray) (A : Option Addr) (c : Nat), k ≤ s.size + 1 ∧ bg ≤ k ∧ iv = .int .i64 (k : Int) ∧ bv = .int .i64 (bg : Int) ∧ ov = .slice A D.length c ∧ wr.ownsRow w.heap.size 9 1 (.slice A D.length c) D.length (strV D) ∧ D ++ fldF s (s.size + 1 - k) bg k = fldT s ∧ D.length ≤ k ∧ (∀ j, j < k → j < s.size → 32 ≤ byt s j ∧ byt s j ≤ 126) ∧ Below w.heap.size w wr) (fun _ _ iv _ => s.size + 1 - (intOf iv).toNat)
  case atStart => exact ⟨0, 0, [], _, _, Nat.zero_le _, Nat.le_refl _, rfl, rfl, rfl, owns_new _ _ _ _ (Nat.le_refl _), rfl, Nat.le_refl _, fun j hj => absurd hj (by omega), balloc _ _⟩
  case round =>
    obtain ⟨k, bg, D, A, c, hk, hbg, rfl, rfl, rfl, how, hD, hDl, hok, hb⟩ := hrel
    have HOW := Lib.hid how; have HD := Lib.hid hD; have HOK := Lib.hid hok; have HB := Lib.hid hb
    have hsz := hb.size
    clear how hD hok hb
    by_cases hle : k ≤ s.size
    · by_cases hlt : k < s.size
      · obtain ⟨u, hu⟩ : ∃ u, s[k] = u := ⟨_, rfl⟩
        have hby := byt_at hlt
        rw [hu] at hby
        have HBY := Lib.hid hby; clear hby
        obtain ⟨hb0, hb1⟩ := bytOf_lt u
        have hkb : ((k : Int)).toNat = k := by omega
        by_cases c0 : (u.toNat : Int) < 32
        · go_wp2
          go_ret2
          exact spl_none (.inr (.inl ⟨k, hlt, by rw [HBY.out]; exact .inl c0⟩)) (HB.out.alloc hsz _)
        by_cases c1 : 126 < (u.toNat : Int)
        · go_wp2
          go_ret2
          exact spl_none (.inr (.inl ⟨k, hlt, by rw [HBY.out]; exact .inr c1⟩)) (HB.out.alloc hsz _)
        have hok2 : (∀ j, j < k + 1 → j < s.size → 32 ≤ byt s j ∧ byt s j ≤ 126) := fun j hj hs2 => by
          by_cases e : j = k
          · subst e; rw [HBY.out]; omega
          · exact HOK.out j (by omega) hs2
        have HOK2 := Lib.hid hok2; clear hok2
        have hm : s.size + 1 - k = (s.size + 1 - (k + 1)) + 1 := by omega
        by_cases c2 : (u.toNat : Int) = 32
        · have hf := fldF_space (m := s.size + 1 - (k + 1)) (bg := bg) (HBY.out.trans c2)
          have hD2 := HD.out
          rw [hm, hf] at hD2
          have HD2 := Lib.hid hD2; clear hD2 hf
          by_cases c3 : bg < k
          · skip
            have hsn := strV_snoc D (s.extract bg k)
            have HSN := Lib.hid hsn; clear hsn
            have hd3 := HD2.out
            rw [if_pos c3] at hd3
            have HD3 := Lib.hid hd3; clear hd3
            go_wp2_with (at_builtin; go_must (refine list_app rfl _ _ 25 rfl w.heap.size 9 j0 (.string ⟨#[]⟩) 1 16 Tryd.underlying25 hj0 hy0 hy1 hy2 rfl (by decide) _ D.length _ rfl (own_callT HOW.out (balloc _ _)) (some ⟨wr.heap.size, 0, none⟩) 1 1 [.string (s.extract bg k)] rfl (src_str (has_new _ _ _)) (by unfold maxLen; omega) (by omega) (by simp; omega) ?_))
            intro A4 c4 w4 hown4 hgrow4 hrow4
            have hb4 : Below w.heap.size w w4 := (HB.out.alloc hsz _).grown hgrow4 (by simp; omega) (fun b hb => (hrow4 b hb).1)
            rw [← HSN.out] at hown4
            have HB4 := Lib.hid hb4; have OW4 := Lib.hid hown4; clear hb4 hown4 hgrow4 hrow4
            go_wp2
            go_roundw
            case rel => exact ⟨k + 1, k + 1, D ++ [s.extract bg k], A4, c4, by omega, by omega, by go_num, by go_num, by rw [List.length_append]; rfl, by rw [List.length_append]; exact OW4.out, by rw [List.append_assoc]; exact HD3.out, by simp; omega, HOK2.out, HB4.out⟩
            case measure => simp [intOf]; omega
          · skip
            have hd3 := HD2.out
            rw [if_neg c3, List.nil_append] at hd3
            have HD3 := Lib.hid hd3; clear hd3
            go_wp2
            go_roundw
            case rel => exact ⟨k + 1, k + 1, D, A, c, by omega, by omega, by go_num, by go_num, rfl, HOW.out, HD3.out, by omega, HOK2.out, HB.out⟩
            case measure => simp [intOf]; omega
        · have hf := fldF_more (m := s.size + 1 - (k + 1)) (bg := bg) (fun e => c2 (HBY.out.symm.trans e))
          have hD2 := HD.out
          rw [hm, hf] at hD2
          have HD2 := Lib.hid hD2; clear hD2 hf
          have c2' : ((u.toNat : Int) != 32) = true := by simpa using c2
          go_wp2
          go_roundw
          case rel => exact ⟨k + 1, bg, D, A, c, by omega, by omega, by go_num, rfl, rfl, HOW.out, HD2.out, by omega, HOK2.out, HB.out⟩
          case measure => simp [intOf]; omega
      · have hks : k = s.size := by omega
        have hm : s.size + 1 - k = (s.size + 1 - (k + 1)) + 1 := by omega
        have hf := fldF_space (m := s.size + 1 - (k + 1)) (bg := bg) (byt_end hlt)
        have hD2 := HD.out
        rw [hm, hf] at hD2
        have HD2 := Lib.hid hD2; clear hD2 hf
        have hok2 : (∀ j, j < k + 1 → j < s.size → 32 ≤ byt s j ∧ byt s j ≤ 126) := fun j hj hs2 => HOK.out j (by omega) hs2
        have HOK2 := Lib.hid hok2; clear hok2 hks
        by_cases c3 : bg < k
        · skip
          have hsn := strV_snoc D (s.extract bg k)
          have HSN := Lib.hid hsn; clear hsn
          have hd3 := HD2.out
          rw [if_pos c3] at hd3
          have HD3 := Lib.hid hd3; clear hd3
          go_wp2_with (at_builtin; go_must (refine list_app rfl _ _ 25 rfl w.heap.size 9 j0 (.string ⟨#[]⟩) 1 16 Tryd.underlying25 hj0 hy0 hy1 hy2 rfl (by decide) _ D.length _ rfl (own_callT HOW.out (balloc _ _)) (some ⟨wr.heap.size, 0, none⟩) 1 1 [.string (s.extract bg k)] rfl (src_str (has_new _ _ _)) (by unfold maxLen; omega) (by omega) (by simp; omega) ?_))
          intro A4 c4 w4 hown4 hgrow4 hrow4
          have hb4 : Below w.heap.size w w4 := (HB.out.alloc hsz _).grown hgrow4 (by simp; omega) (fun b hb => (hrow4 b hb).1)
          rw [← HSN.out] at hown4
          have HB4 := Lib.hid hb4; have OW4 := Lib.hid hown4; clear hb4 hown4 hgrow4 hrow4
          go_wp2
          go_roundw
          case rel => exact ⟨k + 1, k + 1, D ++ [s.extract bg k], A4, c4, by omega, by omega, by go_num, by go_num, by rw [List.length_append]; rfl, by rw [List.length_append]; exact OW4.out, by rw [List.append_assoc]; exact HD3.out, by simp; omega, HOK2.out, HB4.out⟩
          case measure => simp [intOf]; omega
        · skip
          have hd3 := HD2.out
          rw [if_neg c3, List.nil_append] at hd3
          have HD3 := Lib.hid hd3; clear hd3
          go_wp2
          go_roundw
          case rel => exact ⟨k + 1, k + 1, D, A, c, by omega, by omega, by go_num, by go_num, rfl, HOW.out, HD3.out, by omega, HOK2.out, HB.out⟩
          case measure => simp [intOf]; omega
    · have hk1 : k = s.size + 1 := by omega
      have hD2 := HD.out
      rw [hk1, Nat.sub_self] at hD2
      have hDD : D = fldT s := by rw [← hD2]; simp [fldF]
      have hnb : ¬ BadT s := fun ⟨j, hj, h⟩ => by have := HOK.out j (by omega) hj; omega
      clear hk1
      by_cases c4 : 24 < D.length
      · have c4' : (24 : Int) < (D.length : Int) := by omega
        have c5 : ¬ ((k : Int) ≤ (s.size : Int)) := by omega
        have hc6 : 24 < (fldT s).length := by rw [← hDD]; exact c4
        have HC6 := Lib.hid hc6
        clear hnb hD2 hDD hc6
        go_wp2
        go_ret2
        exact spl_none (.inr (.inr HC6.out)) (HB.out.alloc hsz _)
      · have hv := splV_yes (s := s) (fun h => by rcases h with h | h | h; exact hbig h; exact hnb h; rw [← hDD] at h; exact c4 h)
        have HVV := Lib.hid hv; have HDD := Lib.hid hDD; clear hv hD2 hnb hDD
        have c4' : ¬ ((24 : Int) < (D.length : Int)) := by omega
        have c5 : ¬ ((k : Int) ≤ (s.size : Int)) := by omega
        go_wp2
        go_ret2
        rw [HVV.out, ← HDD.out]
        exact ⟨A, c, rfl, own_orT HOW.out, HB.out⟩
end Go.Proofs.YtlajniepjnhfcaaDoor
