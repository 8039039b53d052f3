/-
  Maps whose elements are four numbers: what one holds, looked up and stored into.
-/
import Derived.Test.YtggcfgbpameppaaGok
import Derived.Maps.OwnSet
import Derived.DeepKeys5
namespace Go.Proofs.Ytggcfgbpameppaa
open Go.RowKit Go.Maps
set_option linter.unusedVariables false
set_option linter.unusedSimpArgs false

def q4D (x : Q4) : DataW Unit := .agg [.lit (.int .i64 x.a), .lit (.int .i64 x.b), .lit (.int .i64 x.c), .lit (.int .i64 x.d)]
def q4Elem (v : Value) : Option (DataW Unit × List MemPlace) :=
  match v with
  | .agg cs => (match cs.toList with
    | [.int .i64 a, .int .i64 b, .int .i64 c, .int .i64 d] => some (q4D ⟨a, b, c, d⟩, [])
    | _ => none)
  | _ => none
theorem q4Elem_mk (x : Q4) : q4Elem (q4V x) = some (q4D x, []) := rfl
theorem q4Elem_inv {v : Value} {z : DataW Unit × List MemPlace} (h : q4Elem v = some z) : ∃ x, v = q4V x ∧ z = (q4D x, []) := by
  unfold q4Elem at h
  split at h
  · rename_i cs
    split at h
    · rename_i a b c d hl
      cases h
      refine ⟨⟨a, b, c, d⟩, ?_, rfl⟩
      obtain ⟨l⟩ := cs
      simp only at hl
      subst hl
      rfl
    · cases h
  · cases h
theorem q4D_inj {x y : Q4} (h : q4D x = q4D y) : x = y := by
  obtain ⟨a, b, c, d⟩ := x
  obtain ⟨a', b', c', d'⟩ := y
  simp only [q4D, DataW.agg.injEq, List.cons.injEq, DataW.lit.injEq, Lit.int.injEq, true_and, and_true] at h
  obtain ⟨rfl, rfl, rfl, rfl⟩ := h
  rfl

/-- Block b of w is a map of at most n entries that holds F. -/
def MapQ (w : World) (K : TypeId) (b n : Nat) (F : Lit → Option Q4) : Prop :=
  ∃ D : DataW Unit, w.ownsMap Try.prog K q4Elem b n D ∧ IsMap D ∧ ∀ l, has D l = (F l).isSome ∧ ∀ x, F l = some x → ∀ z, D.atKey l z = q4D x

theorem MapQ.made (w : World) (K : TypeId) : MapQ (w.alloc (.map #[] 0)) K w.heap.size 0 (fun _ => none) :=
  ⟨_, World.ownsMap_made w _ K _, isMap_empty, fun l => ⟨rfl, fun x h => by cases h⟩⟩
theorem MapQ.same {w w' : World} {K : TypeId} {b n : Nat} {F : Lit → Option Q4} (h : MapQ w K b n F) (e : w'.heap[b]? = w.heap[b]?) : MapQ w' K b n F := by
  obtain ⟨D, ⟨es, clock, hb, hF, hs, hD⟩, h2, h3⟩ := h
  exact ⟨D, ⟨es, clock, e.trans hb, hF, hs, hD⟩, h2, h3⟩
theorem MapQ.lt {w : World} {K : TypeId} {b n : Nat} {F : Lit → Option Q4} (h : MapQ w K b n F) : b < w.heap.size := by
  obtain ⟨D, h1, _⟩ := h
  exact h1.lt
theorem MapQ.below {w w' : World} {K : TypeId} {b n : Nat} {F : Lit → Option Q4} (h : MapQ w K b n F) (hb : Below w.heap.size w w') : MapQ w' K b n F := h.same (hb.block _ h.lt)

/-- What is found. -/
theorem MapQ.found {F : Lit → Option Q4} {D : DataW Unit} {kl : Lit} {v : Value} {ps : List MemPlace} (h : has D kl = (F kl).isSome ∧ ∀ x, F kl = some x → ∀ z, D.atKey kl z = q4D x) (hv : q4Elem v = some (D.atKey kl (q4D Q4.none), ps)) : v = q4V ((F kl).getD Q4.none) := by
  obtain ⟨x, rfl, hx⟩ := q4Elem_inv hv
  simp only [Prod.mk.injEq] at hx
  have e := hx.1
  cases hF : F kl with
  | none =>
    rw [hF] at h
    rw [atKey_of_not_has h.1] at e
    rw [q4D_inj e]
    rfl
  | some y =>
    rw [h.2 y hF] at e
    rw [q4D_inj e]
    rfl

section
variable {w : World} {ops : Array Oper} {rest : List Oper} {o : Oper} {a : Act} {Q : Exit → Act → World → Prop}

theorem wpList_lookup_q (w : World) (hg : o.guard = none) (m x : Operand) (t : TypeId) (hop : o.op = Op.lookup t m x true) (k e : TypeId) (K : Keyed Try.prog k) (ht : Try.prog.underlying t = some (.map k e)) (hz : (zeroValue e).run Try.prog w = .ok (q4V Q4.none) w)
    (b n : Nat) (F : Lit → Option Q4) (hm : a.eval m = .map (some b)) (h : MapQ w k b n F) (key : Value) (kl : Lit) (hx : a.eval x = key) (hkey : keyOf Try.prog k key = some kl)
    (hK : wpList Try.prog ops Q rest (a.put o.dst (.tuple #[q4V ((F kl).getD Q4.none), .bool (F kl).isSome])) w) : wpList Try.prog ops Q (o :: rest) a w := by
  obtain ⟨D, hD, hM, hF⟩ := h
  refine wpList_lookup_own_ok w hg m x t hop k e K ht q4Elem hz (q4D Q4.none) [] (q4Elem_mk _) b n D hm hD key kl hx hkey (fun v ps hv => ?_)
  rw [MapQ.found (hF kl) hv, (hF kl).1]
  exact hK

theorem wpList_lookup_q1 (w : World) (hg : o.guard = none) (m x : Operand) (t : TypeId) (hop : o.op = Op.lookup t m x false) (k e : TypeId) (K : Keyed Try.prog k) (ht : Try.prog.underlying t = some (.map k e)) (hz : (zeroValue e).run Try.prog w = .ok (q4V Q4.none) w)
    (b n : Nat) (F : Lit → Option Q4) (hm : a.eval m = .map (some b)) (h : MapQ w k b n F) (key : Value) (kl : Lit) (hx : a.eval x = key) (hkey : keyOf Try.prog k key = some kl)
    (hK : wpList Try.prog ops Q rest (a.put o.dst (q4V ((F kl).getD Q4.none))) w) : wpList Try.prog ops Q (o :: rest) a w := by
  obtain ⟨D, hD, hM, hF⟩ := h
  refine wpList_plain hg fun K' hK' => ?_
  obtain ⟨v, ps, hrun, hv⟩ := hD.lookup K ht hz (q4Elem_mk _) hkey
  rw [MapQ.found (hF kl) hv] at hrun
  unfold Oper.wp
  simp [execOp, hop, hm, hx, hrun, Result.andThen]
  exact hK' _ _ hK

open Classical in
theorem wpList_mapUpdate_q (w : World) (hg : o.guard = none) (m x v : Operand) (t : TypeId) (hop : o.op = Op.mapUpdate t m x v) (k e : TypeId) (K : Keyed Try.prog k) (ht : Try.prog.underlying t = some (.map k e))
    (b n : Nat) (F : Lit → Option Q4) (hm : a.eval m = .map (some b)) (h : MapQ w k b n F) (hn : n < maxLen) (key : Value) (y : Q4) (kl : Lit) (hx : a.eval x = key) (hv : a.eval v = q4V y) (hkey : keyOf Try.prog k key = some kl)
    (hK : ∀ w', MapQ w' k b (n + 1) (fun l => if l = kl then some y else F l) → w.grownBy w' (some b) → wpList Try.prog ops Q rest (a.put o.dst undef) w') : wpList Try.prog ops Q (o :: rest) a w := by
  obtain ⟨D, hD, hM, hF⟩ := h
  have hkl := K.key hkey
  refine wpList_mapUpdate_own w hg m x v t hop k e K ht q4Elem b n D hm hD hn key (q4V y) kl hx hv hkey (q4D y) [] (q4Elem_mk _) (fun w' h1 h2 => hK w' ⟨_, h1, hM.put _ _, fun l => ?_⟩ h2)
  by_cases hl : l = kl
  · subst hl
    simp only [if_pos]
    exact ⟨has_put_same hM hkl _, fun x hx z => by cases hx; exact atKey_put_same hM hkl _ z⟩
  · simp only [if_neg hl]
    exact ⟨(has_put_other hl _).trans (hF l).1, fun x hx z => (atKey_put_other hl _ z).trans ((hF l).2 x hx z)⟩
end

theorem laidF : laidOutB Try.prog = true := by kernel_rfl
theorem und69 : Try.prog.underlying 69 = some (.map 2 39) := by kernel_rfl
theorem und70 : Try.prog.underlying 70 = some (.map 105 63) := by kernel_rfl
theorem keyedI : Keyed Try.prog 2 := int_keyed Try.underlying2
theorem keyedS : Keyed Try.prog 105 := Keyed.of_law (deep_law_gate laidF (of_decide_eq_true (by kernel_rfl)) (of_decide_eq_true (by kernel_rfl)) (by kernel_rfl) (by kernel_rfl))
theorem zero39 (w : World) : (zeroValue 39).run Try.prog w = .ok (q4V Q4.none) w := by kernel_rfl
theorem zero63 (w : World) : (zeroValue 63).run Try.prog w = .ok (q4V Q4.none) w := by kernel_rfl
theorem wfI {x : Int} (h : I64 x) : (Lit.int .i64 x).wf = true := WalkArith.wf_i64 (by omega)
theorem keyI {x : Int} (h : I64 x) : keyOf Try.prog 2 (.int .i64 x) = some (.int .i64 x) := keyOf_int_mk Try.underlying2 (wfI h)

/-- What a pair of codes is as a key. -/
def kS (x y : Int) : Lit := .string (keyBytes [.int .i64 x, .int .i64 y])
theorem cells105 : Try.prog.cellsOf 105 = 2 := by kernel_rfl
theorem cellsI2 : Try.prog.cellsOf 2 = 1 := by kernel_rfl
theorem kt105 : Try.prog.keyType 105 = true := by kernel_rfl
theorem sz105 : ∃ m, Try.prog.types.size + 1 = m + 1 + 1 := ⟨Try.prog.types.size - 1, by have : 1 ≤ Try.prog.types.size := of_decide_eq_true (by kernel_rfl); omega⟩
theorem keyS {x y : Int} (hx : I64 x) (hy : I64 y) : keyOf Try.prog 105 (.agg #[.int .i64 x, .int .i64 y]) = some (kS x y) := by
  obtain ⟨m, hm⟩ := sz105
  unfold keyOf
  rw [Try.underlying105]
  simp only [kt105, hm]
  simp [Value.formed, Try.underlying105, cells105, Value.cells, Program.keyLits, Try.underlying2, cellsI2, wfI hx, wfI hy, kS]
theorem kS_inj {x y x' y' : Int} (hx : I64 x) (hy : I64 y) (hx' : I64 x') (hy' : I64 y') (h : kS x y = kS x' y') : x = x' ∧ y = y' := by
  have h1 := keyS hx hy
  have h2 := keyS hx' hy'
  rw [h] at h1
  have h3 := keyedS.inj h1 h2
  simp at h3
  exact h3
end Go.Proofs.Ytggcfgbpameppaa
