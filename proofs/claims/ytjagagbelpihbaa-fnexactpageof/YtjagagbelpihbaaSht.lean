/-
  Sheets: what one is, the copy of one, and whether it can be, by the specification and by the program.
-/
import Derived.Test.YtjagagbelpihbaaBas
import Derived.Laws.Rows
import Derived.Laws.Tables
import Derived.Laws.CopyOwn
import Derived.Test.YtjagagbelpihbaaFit
namespace Go.Proofs.Ytjagagbelpihbaa
open Go.RowKit
set_option linter.unusedVariables false
set_option linter.unusedSimpArgs false

theorem wpList_load_row {P : Program} {w : World} {ops : Array Oper} {rest : List Oper} {o : Oper} {a : Act} {Q : Exit → Act → World → Prop} (hgd : o.guard = none) (t : TypeId) (p : Operand) (ho : o.op = Op.load t p) (g : Nat) (hp : a.eval p = .pointer (some ⟨g, 0, none⟩))
    (cs : Array Value) (ty : TypeId) (fr : Nat × Nat) (hg : w.heap[g]? = some (.cells cs ty fr)) (d : TypeDesc) (hu : P.underlying t = some d) (hd : (match d with | .struct _ | .array _ _ => true | _ => false) = true) (hi : (P.info? t).map (·.size) = some cs.size)
    (h : wpList P ops Q rest (a.put o.dst (.agg cs)) w) : wpList P ops Q (o :: rest) a w := by
  refine wpList_plain hgd fun K hK => ?_
  have hr := run_loadVar_row (P := P) w g ty t cs fr d hg hu hd hi
  unfold Oper.wp execOp
  simp only [ho, hp, Instr.loadAt, Instr.sureAddr, Sem.run_bind, Sem.run_pure, Result.andThen_ok, hr]
  exact hK _ _ h
theorem wpList_store_row {P : Program} {w : World} {ops : Array Oper} {rest : List Oper} {o : Oper} {a : Act} {Q : Exit → Act → World → Prop} (hgd : o.guard = none) (t : TypeId) (p v : Operand) (ho : o.op = Op.store t p v) (g : Nat) (hp : a.eval p = .pointer (some ⟨g, 0, none⟩))
    (old cells : Array Value) (hv : a.eval v = .agg cells) (ty : TypeId) (hg : w.heap[g]? = some (.cells old ty (0, 0))) (hi : (P.info? t).map (·.size) = some cells.size) (hs : old.size = cells.size) (h1 : cells.all (·.oneCell') = true)
    (h : wpList P ops Q rest (a.put o.dst undef) (w.setRow g cells)) : wpList P ops Q (o :: rest) a w := by
  refine wpList_plain hgd fun K hK => ?_
  have hr := run_storeVar_row (P := P) w g ty t old cells hg hi hs h1
  unfold Oper.wp execOp
  simp only [ho, hp, hv, Instr.storeAt, Instr.sureAddr, Sem.run_bind, Sem.run_pure, Result.andThen_ok, hr]
  exact hK _ _ h
end Go.Proofs.Ytjagagbelpihbaa

namespace Go.Proofs.Ytjagagbelpihbaa
open Go.RowKit
set_option linter.unusedVariables false
set_option linter.unusedSimpArgs false

/-- A sheet. -/
structure Sh where
  ht : Int
  dp : Int
  g0 : Int
  g1 : Int
  g2 : Int
  g3 : Int
  g4 : Int
  nt : Int

abbrev shV (x : Sh) : Value := .agg #[.int .i64 x.ht, .int .i64 x.dp, .int .i64 x.g0, .int .i64 x.g1, .int .i64 x.g2, .int .i64 x.g3, .int .i64 x.g4, .int .i64 x.nt]
def shB (x : Sh) : Bool := uptoB x.ht 1073741823 && uptoB x.dp 1073741823 && uptoB x.nt 1073741823 && glB x.g0 x.g1 x.g2 x.g3 x.g4

set_option maxHeartbeats 4000000 in
theorem specSheet_any (x : Sh) (w : World) : Calls Try.prog 69 #[shV x] w fun e w' => e = .returned (.bool (shB x)) ∧ Below w.heap.size w w' := by
  obtain ⟨ht, dp, g0, g1, g2, g3, g4, nt⟩ := x
  simp only [shV]
  by_cases p_ht : 0 ≤ ht
  case neg =>
    have q : uptoB ht 1073741823 = false := upto_no (by omega)
    rw [show shB ⟨ht, dp, g0, g1, g2, g3, g4, nt⟩ = false by simp [shB, q]]
    clear q
    go_enter Try.func69, Try.ntmps69
    go_wp2
    go_ret
    exact ⟨rfl, below1 _ _⟩
  case pos =>
    by_cases q_ht : ht ≤ 1073741823
    case neg =>
      have q : uptoB ht 1073741823 = false := upto_no (by omega)
      rw [show shB ⟨ht, dp, g0, g1, g2, g3, g4, nt⟩ = false by simp [shB, q]]
      clear q
      go_enter Try.func69, Try.ntmps69
      go_wp2
      go_ret
      exact ⟨rfl, below1 _ _⟩
    case pos =>
      by_cases p_dp : 0 ≤ dp
      case neg =>
        have q : uptoB dp 1073741823 = false := upto_no (by omega)
        rw [show shB ⟨ht, dp, g0, g1, g2, g3, g4, nt⟩ = false by simp [shB, q]]
        clear q
        go_enter Try.func69, Try.ntmps69
        go_wp2
        go_ret
        exact ⟨rfl, below1 _ _⟩
      case pos =>
        by_cases q_dp : dp ≤ 1073741823
        case neg =>
          have q : uptoB dp 1073741823 = false := upto_no (by omega)
          rw [show shB ⟨ht, dp, g0, g1, g2, g3, g4, nt⟩ = false by simp [shB, q]]
          clear q
          go_enter Try.func69, Try.ntmps69
          go_wp2
          go_ret
          exact ⟨rfl, below1 _ _⟩
        case pos =>
          by_cases p_nt : 0 ≤ nt
          case neg =>
            have q : uptoB nt 1073741823 = false := upto_no (by omega)
            rw [show shB ⟨ht, dp, g0, g1, g2, g3, g4, nt⟩ = false by simp [shB, q]]
            clear q
            go_enter Try.func69, Try.ntmps69
            go_wp2
            go_ret
            exact ⟨rfl, below1 _ _⟩
          case pos =>
            by_cases q_nt : nt ≤ 1073741823
            case neg =>
              have q : uptoB nt 1073741823 = false := upto_no (by omega)
              rw [show shB ⟨ht, dp, g0, g1, g2, g3, g4, nt⟩ = false by simp [shB, q]]
              clear q
              go_enter Try.func69, Try.ntmps69
              go_wp2
              go_ret
              exact ⟨rfl, below1 _ _⟩
            case pos =>
              rw [show shB ⟨ht, dp, g0, g1, g2, g3, g4, nt⟩ = glB g0 g1 g2 g3 g4 by simp [shB, upto_yes p_ht q_ht, upto_yes p_dp q_dp, upto_yes p_nt q_nt]]
              go_enter Try.func69, Try.ntmps69
              go_wp2_with fail
              refine (specGlueOk_any _ _ _ _ _ _).mono ?_
              rintro e w1 ⟨rfl, hb1⟩
              have B1 : Hid (Below w.heap.size w w1) := hideP (below_more (below1 _ _) hb1 (by simp))
              clear hb1
              go_wp2
              go_ret
              exact ⟨rfl, B1.out⟩

set_option maxHeartbeats 4000000 in
theorem implSheet_any (x : Sh) (w : World) : Calls Try.prog 65 #[shV x] w fun e w' => e = .returned (.bool (shB x)) ∧ Below w.heap.size w w' := by
  obtain ⟨ht, dp, g0, g1, g2, g3, g4, nt⟩ := x
  simp only [shV]
  cases h_ht : uptoB ht 1073741823
  case false =>
    rw [show shB ⟨ht, dp, g0, g1, g2, g3, g4, nt⟩ = false by simp [shB, h_ht]]
    go_enter Try.func65, Try.ntmps65
    go_wp2_with (go_at_call 79; refine (upTo_any _ _ _).mono ?_; rintro e w' ⟨rfl, rfl⟩)
    go_ret
    exact ⟨rfl, below1 _ _⟩
  case true =>
    cases h_dp : uptoB dp 1073741823
    case false =>
      rw [show shB ⟨ht, dp, g0, g1, g2, g3, g4, nt⟩ = false by simp [shB, h_dp]]
      go_enter Try.func65, Try.ntmps65
      go_wp2_with (go_at_call 79; refine (upTo_any _ _ _).mono ?_; rintro e w' ⟨rfl, rfl⟩)
      go_ret
      exact ⟨rfl, below1 _ _⟩
    case true =>
      go_enter Try.func65, Try.ntmps65
      go_wp2_with (go_at_call 79; refine (upTo_any _ _ _).mono ?_; rintro e w' ⟨rfl, rfl⟩)
      refine (implGlueOk_any _ _ _ _ _ _).mono ?_
      rintro e w1 ⟨rfl, hb1⟩
      have hs1 : w.heap.size < w1.heap.size := by have := hb1.size; simp at this; omega
      have B1 : Hid (Below w.heap.size w w1) := hideP (below_more (below1 _ _) hb1 (by simp))
      obtain ⟨hc1, hf1⟩ := bcell hb1
      try simp only [World.size_alloc] at hc1 hf1
      clear hb1
      cases g1 : glB g0 g1 g2 g3 g4
      · go_wp2
        go_ret
        exact ⟨retB (by simp [shB, g1]), B1.out⟩
      · go_wp2_with (go_at_call 79; refine (upTo_any _ _ _).mono ?_; rintro e w' ⟨rfl, rfl⟩)
        go_ret
        exact ⟨retB (by simp [shB, g1, h_ht, h_dp]), B1.out⟩

set_option maxHeartbeats 4000000 in
theorem toSheet_any (x : Sh) (w : World) : Calls Try.prog 28 #[shV x] w fun r w' => r = .returned (shV x) ∧ Below w.heap.size w w' := by
  obtain ⟨ht, dp, g0, g1, g2, g3, g4, nt⟩ := x
  simp only [shV]
  go_enter Try.func28, Try.ntmps28
  go_wp2_with fail
  refine (toGlue_any _ _ _ _ _ _).mono ?_
  rintro e w1 ⟨rfl, hb1⟩
  have hz1 : w.heap.size + 1 + 1 < w1.heap.size := by have := hb1.size; simp at this; omega
  have hy1 : w.heap.size + 1 < w1.heap.size := by omega
  have hx1 : w.heap.size < w1.heap.size := by omega
  have B1 : Hid (Below w.heap.size w w1) := by
    refine below_more ?_ hb1 (by simp; omega)
    repeat (first | with_reducible exact below3 _ _ _ _ | (with_reducible refine Below.setCell ?_ ?_ _; rotate_left; focus (first | (simp; done) | (simp; omega))))
  obtain ⟨hc1, hf1⟩ := bcell hb1
  try simp only [World.size_setCell, World.size_alloc] at hc1 hf1
  clear hb1
  go_wp2
  refine bodyPost_ret (v := shV ⟨ht, dp, g0, g1, g2, g3, g4, nt⟩) (by simp [results, Try.results28, go_sem, hc1, hx1, hy1, hz1]) rfl ⟨rfl, ?_⟩
  have B2 := B1.out
  clear hc1 hf1 B1
  repeat (first | with_reducible exact B2 | (with_reducible refine Below.setCell ?_ ?_ _; rotate_left; focus (first | (simp; done) | (simp; omega))))
end Go.Proofs.Ytjagagbelpihbaa
