/- Chapter 4: comparing two doors as structs. -/
import Derived.Test.YtaeonangkbhmgaaDoaP
import Derived.Laws.StructEq
namespace Go.Proofs.Ytaeonangkbhmgaa
open Go.RowKit
set_option linter.unusedVariables false
theorem doorFields : (Try.prog.fieldsOf 27).toList.map (fun f => (f.name == "_", f.type, f.offset)) = [(false, 3, 0), (false, 3, 1), (false, 4, 2), (false, 4, 3), (false, 4, 4)] := by kernel_rfl
set_option maxHeartbeats 2000000 in
theorem door_ne (W : World) {k1 s1 k2 s2 : Int} {l1 o1 f1 l2 o2 f2 : Bool} (h : ¬ (⟨k2, s2, l2, o2, f2⟩ : Dr) = ⟨k1, s1, l1, o1, f1⟩) :
    (binOp .neq 27 (.agg #[.int .i64 k2, .int .i64 s2, .bool l2, .bool o2, .bool f2]) (.agg #[.int .i64 k1, .int .i64 s1, .bool l1, .bool o1, .bool f1])).run Try.prog W = .ok (.bool true) W := by
  have hh : ¬ (k2 = k1 ∧ s2 = s1 ∧ l2 = l1 ∧ o2 = o1 ∧ f2 = f1) := fun ⟨a, b, c, d, e⟩ => h (by rw [a, b, c, d, e])
  clear h
  by_cases hk : k2 = k1
  · by_cases hs : s2 = s1
    · by_cases hl : l2 = l1
      · by_cases ho : o2 = o1
        · have hf : ¬ f2 = f1 := fun e => hh ⟨hk, hs, hl, ho, e⟩
          clear hh; subst hk hs hl ho; simp [go_sem, hf]
        · clear hh; subst hk hs hl; simp [go_sem, ho]
      · clear hh; subst hk hs; simp [go_sem, hl]
    · clear hh; subst hk; simp [go_sem, hs]
  · clear hh; simp [go_sem, hk]
end Go.Proofs.Ytaeonangkbhmgaa
