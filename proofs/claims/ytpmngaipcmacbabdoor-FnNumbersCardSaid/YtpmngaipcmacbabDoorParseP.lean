/- Chapter 1: what text is taken for a number: plain facts. -/
import Derived.Test.YtpmngaipcmacbabDoorFmt
import Derived.Laws.RangeString
import Derived.Laws.RangeAny
namespace Go.Proofs.YtpmngaipcmacbabDoor
open Go.RowKit
set_option linter.unusedVariables false

/-- the number that digits spell -/
def numL (l : List Int) : Int := l.foldl (fun n d => n * 10 + (d - 48)) 0
def digs (l : List Int) : Bool := l.all fun d => decide (48 ≤ d) && decide (d ≤ 57)
theorem numL_snoc (l : List Int) (d : Int) : numL (l ++ [d]) = numL l * 10 + (d - 48) := by simp [numL]
theorem digs_snoc (l : List Int) (d : Int) : digs (l ++ [d]) = (digs l && (decide (48 ≤ d) && decide (d ≤ 57))) := by simp [digs]
theorem digs_mem {l : List Int} (h : digs l = true) : ∀ d ∈ l, 48 ≤ d ∧ d ≤ 57 := fun d hd => by
  have := List.all_eq_true.1 h d hd
  simpa using this
theorem snoc_cases (l : List Int) : l = [] ∨ ∃ l' d, l = l' ++ [d] := by
  rcases l with _ | ⟨a, r⟩
  · exact .inl rfl
  · exact .inr ⟨(a :: r).dropLast, (a :: r).getLast (by simp), (List.dropLast_concat_getLast (by simp)).symm⟩
theorem digs_init {l : List Int} {d : Int} (h : digs (l ++ [d]) = true) : digs l = true ∧ 48 ≤ d ∧ d ≤ 57 := by
  rw [digs_snoc] at h
  simpa using h
theorem numL_nonneg : ∀ (n : Nat) (l : List Int), l.length = n → digs l = true → 0 ≤ numL l
  | 0, l, hl, _ => by rw [List.eq_nil_of_length_eq_zero hl]; exact Int.le_refl _
  | n + 1, l, hl, h => by
    rcases snoc_cases l with rfl | ⟨l', d, rfl⟩
    · simp at hl
    · obtain ⟨h1, h2, h3⟩ := digs_init h
      have := numL_nonneg n l' (by simpa using hl) h1
      rw [numL_snoc]; omega
/-- no leading zero -/
def lead (l : List Int) : Prop := ∀ d r, l = d :: r → d ≠ 48
theorem lead_init {l : List Int} {d : Int} (hne : l ≠ []) (h : lead (l ++ [d])) : lead l := fun a r e => h a (r ++ [d]) (by rw [e]; rfl)
theorem num_big : ∀ (n : Nat) (l : List Int), l.length = n + 1 → digs l = true → lead l → (10 : Int) ^ n ≤ numL l
  | 0, l, hl, h, hd => by
    match l, hl with
    | [a], _ =>
      have := digs_mem h a (by simp)
      have := hd a [] rfl
      show (1 : Int) ≤ 0 * 10 + (a - 48)
      omega
  | n + 1, l, hl, h, hd => by
    rcases snoc_cases l with rfl | ⟨l', d, rfl⟩
    · simp at hl
    · obtain ⟨h1, h2, h3⟩ := digs_init h
      have hl' : l'.length = n + 1 := by simpa using hl
      have hne : l' ≠ [] := by intro e; rw [e] at hl'; simp at hl'
      have := num_big n l' hl' h1 (lead_init hne hd)
      rw [numL_snoc, Int.pow_succ]; omega

/-- digits without a leading zero are what the number's digits are -/
theorem dec_num : ∀ (n : Nat) (l : List Int), l.length = n → digs l = true → lead l → ∀ f, n ≤ f → decR f (numL l).toNat = l
  | 0, l, hl, _, _, f, _ => by rw [List.eq_nil_of_length_eq_zero hl]; exact decR_zero f
  | n + 1, l, hl, h, hd, f, hf => by
    obtain ⟨f', rfl⟩ : ∃ f', f = f' + 1 := ⟨f - 1, by omega⟩
    have hbig := num_big n l hl h hd
    have hpos : (0 : Int) < 10 ^ n := Int.pow_pos (by omega)
    rcases snoc_cases l with rfl | ⟨l', d, rfl⟩
    · simp at hl
    · obtain ⟨h1, h2, h3⟩ := digs_init h
      have hl' : l'.length = n := by simpa using hl
      have h0 := numL_nonneg n l' hl' h1
      have hn := numL_snoc l' d
      have hl1 : lead l' := by
        rcases l' with _ | ⟨a, r⟩
        · intro a r e; cases e
        · exact lead_init (by simp) hd
      have ih := dec_num n l' hl' h1 hl1 f' (by omega)
      rw [decR_step f' _ (by omega)]
      have e1 : (numL (l' ++ [d])).toNat / 10 = (numL l').toNat := by omega
      have e2 : (48 : Int) + (((numL (l' ++ [d])).toNat % 10 : Nat) : Int) = d := by omega
      rw [e1, e2, ih]
theorem decR_nil (f m : Nat) (h : m < 10 ^ f) (hd : decR f m = []) : m = 0 := by
  rcases f with _ | f
  · simp at h; omega
  · by_cases h0 : m = 0
    · exact h0
    · rw [decR_step f m h0] at hd; simp at hd
theorem decR_lead : ∀ (f n : Nat), n < 10 ^ f → lead (decR f n)
  | 0, n, _ => fun d r e => by cases e
  | f + 1, n, hn => by
    by_cases h : n = 0
    · rw [h, decR_zero]; intro d r e; cases e
    · rw [decR_step f n h]
      intro d r e
      have hf : n / 10 < 10 ^ f := by rw [Nat.pow_succ] at hn; omega
      have ih := decR_lead f (n / 10) hf
      rcases hh : decR f (n / 10) with _ | ⟨a, t⟩
      · have := decR_nil f (n / 10) hf hh
        rw [hh] at e
        simp at e
        omega
      · rw [hh] at e
        simp at e
        rw [← e.1]
        exact ih a t hh
theorem dec_canon (n : Nat) (hn : n ≤ 10000000000) : decN n = [48] ∨ (decN n ≠ [] ∧ lead (decN n)) := by
  unfold decN
  by_cases h : n = 0
  · rw [if_pos h]; exact .inl rfl
  · rw [if_neg h]
    have hb : n < 10 ^ 20 := by omega
    refine .inr ⟨fun e => h (decR_nil 20 n hb e), decR_lead 20 n hb⟩
/-- a text of digits is what the number's digits are just if it is not empty and has no leading zero, unless it is 0 -/
def canonB (l : List Int) : Bool := match l with | [] => false | [_] => true | a :: _ => decide (a ≠ 48)
theorem canon_iff (l : List Int) : canonB l = true ↔ (l = [48] ∨ (l ≠ [] ∧ lead l)) := by
  rcases l with _ | ⟨a, _ | ⟨b, r⟩⟩
  · simp [canonB]
  · simp only [canonB, true_iff]
    by_cases h : a = 48
    · exact .inl (by rw [h])
    · exact .inr ⟨by simp, fun d r e => by injection e with e _; omega⟩
  · simp only [canonB, decide_eq_true_eq]
    constructor
    · intro h; exact .inr ⟨by simp, fun d r e => by injection e with e _; omega⟩
    · rintro (h | ⟨_, h⟩)
      · simp at h
      · exact h a (b :: r) rfl
theorem own_text (l : List Int) (hd : digs l = true) (hlen : l.length ≤ 10) (hb : numL l ≤ 1000000000) : (decN (numL l).toNat = l) ↔ canonB l = true := by
  have h0 := numL_nonneg l.length l rfl hd
  rw [canon_iff]
  constructor
  · intro h
    have := dec_canon (numL l).toNat (by omega)
    rwa [h] at this
  · rintro (h | ⟨hne, hl⟩)
    · rw [h]; decide
    · have hpos : (0 : Int) < numL l := by
        obtain ⟨n, hn⟩ : ∃ n, l.length = n + 1 := ⟨l.length - 1, by have := List.length_pos_iff.2 hne; omega⟩
        have h1 := num_big n l hn hd hl
        have h2 : (0 : Int) < 10 ^ n := Int.pow_pos (by omega)
        omega
      unfold decN
      rw [if_neg (by omega)]
      exact dec_num l.length l rfl hd hl 20 (by omega)
def parseV (l : List Int) : Value := if digs l = true ∧ canonB l = true ∧ numL l ≤ 1000000000 then .tuple #[.int .i64 (numL l), .bool true] else .tuple #[.int .i64 0, .bool false]
theorem parse_no (l : List Int) (h : ¬ (digs l = true ∧ canonB l = true ∧ numL l ≤ 1000000000)) : parseV l = .tuple #[.int .i64 0, .bool false] := if_neg h
theorem parse_yes (l : List Int) (h : digs l = true ∧ canonB l = true ∧ numL l ≤ 1000000000) : parseV l = .tuple #[.int .i64 (numL l), .bool true] := if_pos h
theorem parse_long (l : List Int) (h : 10 < l.length) : parseV l = .tuple #[.int .i64 0, .bool false] := parse_no l fun ⟨h1, h2, h3⟩ => by
  rcases (canon_iff l).1 h2 with e | ⟨_, hl⟩
  · rw [e] at h; simp at h
  · obtain ⟨n, hn⟩ : ∃ n, l.length = n + 1 := ⟨l.length - 1, by omega⟩
    have h4 := num_big n l hn h1 hl
    have h5 : (10 : Int) ^ 10 ≤ 10 ^ n := by exact_mod_cast Nat.pow_le_pow_right (n := 10) (by omega) (show 10 ≤ n by omega)
    have h6 : (10 : Int) ^ 10 = 10000000000 := by decide
    omega
/-- the bytes of a string, as numbers -/
def bts (s : ByteArray) : List Int := s.data.toList.map fun u => (u.toNat : Int)
theorem bts_len (s : ByteArray) : (bts s).length = s.size := by simp [bts]
theorem bts_at {s : ByteArray} {k : Nat} (h : k < s.size) : (bts s)[k]? = some ((s[k].toNat : Int)) := by
  have hl : k < s.data.toList.length := by simpa using h
  unfold bts
  rw [List.getElem?_map, List.getElem?_eq_getElem hl]
  simp; rfl
theorem str_bts (s : ByteArray) : strOfNums (bts s) = s := by
  apply ByteArray.ext
  simp [strOfNums, bts, Function.comp_def]
theorem bts_inj {l : List Int} {s : ByteArray} (hl : ∀ x ∈ l, 0 ≤ x ∧ x < 256) : strOfNums l = s ↔ l = bts s := by
  constructor
  · intro h
    rw [← h]
    unfold bts
    rw [strOfNums_data, List.map_map]
    have : ∀ x ∈ l, ((fun u : UInt8 => (u.toNat : Int)) ∘ fun n => UInt8.ofNat n.toNat) x = id x := fun x hx => by
      have := hl x hx
      simp [UInt8.toNat_ofNat']
      omega
    rw [List.map_congr_left this, List.map_id]
  · intro h; rw [h]; exact str_bts s
theorem take_bts {s : ByteArray} {k : Nat} (h : k < s.size) : (bts s).take (k + 1) = (bts s).take k ++ [(s[k].toNat : Int)] := by
  rw [List.take_add_one, bts_at h]; rfl
theorem num_small : ∀ (n : Nat) (l : List Int), l.length = n → digs l = true → numL l < (10 : Int) ^ n
  | 0, l, hl, _ => by rw [List.eq_nil_of_length_eq_zero hl]; decide
  | n + 1, l, hl, h => by
    rcases snoc_cases l with rfl | ⟨l', d, rfl⟩
    · simp at hl
    · obtain ⟨h1, h2, h3⟩ := digs_init h
      have := num_small n l' (by simpa using hl) h1
      rw [numL_snoc, Int.pow_succ]; omega
theorem digs_bad {l : List Int} {k : Nat} {x : Int} (h : l[k]? = some x) (hx : x < 48 ∨ 57 < x) : digs l = false := by
  cases hd : digs l
  · rfl
  · have := digs_mem hd x (List.mem_of_getElem? h); omega
theorem num_take (l : List Int) (h : digs l = true) : ∀ (k : Nat), numL (l.take k) ≤ numL l := fun k => by
  have key : ∀ (r : List Int) (n : Int), 0 ≤ n → (∀ d ∈ r, 48 ≤ d ∧ d ≤ 57) → n ≤ r.foldl (fun n d => n * 10 + (d - 48)) n := by
    intro r
    induction r with
    | nil => intro n h _; exact Int.le_refl _
    | cons a r ih =>
      intro n hn hall
      have ha := hall a (by simp)
      have h2 := ih (n * 10 + (a - 48)) (by omega) fun d hd => hall d (by simp [hd])
      show n ≤ r.foldl (fun n d => n * 10 + (d - 48)) (n * 10 + (a - 48))
      omega
  have hall := digs_mem h
  have ht : digs (l.take k) = true := List.all_eq_true.2 fun d hd => by
    have := hall d (List.mem_of_mem_take hd); simp; omega
  have e : numL l = (l.drop k).foldl (fun n d => n * 10 + (d - 48)) (numL (l.take k)) := by
    unfold numL
    rw [← List.foldl_append, List.take_append_drop]
  rw [e]
  exact key _ _ (numL_nonneg _ _ rfl ht) fun d hd => hall d (List.mem_of_mem_drop hd)
end Go.Proofs.YtpmngaipcmacbabDoor
