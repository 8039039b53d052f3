import Derived.Test.YtojoehdmjkgnnaaGreatTrs
import Derived.Test.YtojoehdmjkgnnaaGreatBsl
namespace Go.Proofs.YtojoehdmjkgnnaaGreat
open Go.RowKit
set_option linter.unusedVariables false
set_option linter.unusedSimpArgs false
theorem wpList_load_row {P : Program} {w : World} {ops : Array Oper} {rest : List Oper} {o : Oper} {a : Act} {Q : Exit → Act → World → Prop} (hgd : o.guard = none) (t : TypeId) (p : Operand) (ho : o.op = Op.load t p) (g : Nat) (hp : a.eval p = .pointer (some ⟨g, 0, none⟩))
 (cs : Array Value) (ty : TypeId) (fr : Nat × Nat) (hg : w.heap[g]? = some (.cells cs ty fr)) (d : TypeDesc) (hu : P.underlying t = some d) (hd : (match d with | .struct _ | .array _ _ => true | _ => false) = true) (hi : (P.info? t).map (·.size) = some cs.size)
 (h : wpList P ops Q rest (a.put o.dst (.agg cs)) w) : wpList P ops Q (o :: rest) a w := by
 refine wpList_plain hgd fun K hK => ?_
 have hr := run_loadVar_row (P := P) w g ty t cs fr d hg hu hd hi
 unfold Oper.wp execOp
 simp only [ho, hp, Instr.loadAt, Instr.sureAddr, Sem.run_bind, Sem.run_pure, Result.andThen_ok, hr]
 exact hK _ _ h
theorem ownG_cell {base g n cap e s : Nat} {w : World} {xs : List Value} (h : w.ownsRow base e s (.slice (some ⟨g, 0, none⟩) n cap) n xs) {j : Nat} {x : Value} (hj : xs[j]? = some x) : w.cell? ⟨g, j, none⟩ = some x := by
 obtain ⟨hl, h | ⟨g', cap', cur, e, hg, hb, hn, hm, hs, hx⟩⟩ := h
 ·exact absurd h.1 (by simp)
 ·simp at e
  obtain ⟨rfl, rfl⟩ := e
  rw [cell_of_row _ _ j _ _ _ hb]
  have h1 : j < xs.length := (List.getElem?_eq_some_iff.1 hj).1
  rw [← hx] at hj
  rw [List.getElem?_take] at hj
  split at hj
  ·simpa using hj
  ·cases hj
theorem ownG_addr {w : World} {base e s n : Nat} {a : Option Addr} {c : Nat} {xs : List Value} (h : w.ownsRow base e s (.slice a n c) n xs) (hn : 0 < n) : ∃ g, a = some ⟨g, 0, none⟩ ∧ g < w.heap.size := by
 rcases h.2 with ⟨e, _⟩ | ⟨g, cap, cur, e, _, hh, _⟩
 ·simp at e; omega
 ·simp at e
  exact ⟨g, e.1, (Array.getElem?_eq_some_iff.1 hh).1⟩
theorem arr_one {arr : Array Value} {f : Nat → Int} (h1 : arr.size = 20) (h2 : ∀ i, i < 20 → arr[i]? = some (.int .i64 (f i))) : arr.all (·.oneCell') = true := by
 rw [Array.all_eq_true]
 intro i hi
 have h := h2 i (by omega)
 rw [Array.getElem?_eq_getElem hi] at h
 simp only [Option.some.injEq] at h
 rw [h]
 rfl
set_option maxHeartbeats 2000000 in
theorem whole_any {w : World} {G A cols : Nat} {f : Nat → Int} {gs gp gpo gm gmo : Int} {u : Value} (hG : w.heap[G]? = some (grO (cols : Int) gs gp gpo gm gmo u)) (hA : ArrAt w A f) (hf : Bd f) (h1 : 1 ≤ cols) (h2 : cols ≤ 20) (hg : -1073741823 ≤ gs ∧ gs ≤ 1073741823) :
 Calls Tryz.prog 57 #[.pointer (some ⟨G, 0, none⟩), .pointer (some ⟨A, 0, none⟩)] w fun e w' => e = .returned (.int .i64 (acr f gs 0 (cols - 1))) ∧ w' = w := by
 have q0 : w.cell? ⟨G, 0, none⟩ = some (.int .i64 (cols : Int)) := cell_of_row _ _ 0 _ 109 _ hG
 have hGl : G < w.heap.size := (Array.getElem?_eq_some_iff.1 hG).1
 have HC := hideP (across_any 0 (cols - 1) hG hA hf (by omega) (by omega) hg)
 rw [show ((cols - 1 : Nat) : Int) = (cols : Int) - 1 by omega, show ((0 : Nat) : Int) = 0 from rfl] at HC
 clear hG hA hf hg
 go_enter Tryz.func57, Tryz.ntmps57
 go_wp2_with fail
 refine HC.out.mono ?_
 rintro e w1 ⟨rfl, rfl⟩
 go_wp2
 go_ret
 exact ⟨rfl, rfl⟩
theorem tabB_parts {t : Tb} (h : tabB t = true) : 1 ≤ t.co ∧ t.co ≤ 20 ∧ (-1073741823 ≤ t.gs ∧ t.gs ≤ 1073741823) ∧ t.rs.length ≤ 200 ∧ ∀ i, i < t.rs.length → RowIn (t.rs.getD i Rw.none).cs t.co := by
 unfold tabB headB glB at h
 simp only [Bool.and_eq_true, decide_eq_true_eq] at h
 obtain ⟨⟨⟨⟨h1, h2⟩, ⟨⟨⟨⟨h3, _⟩, _⟩, _⟩, _⟩⟩, h4⟩, h5⟩ := h
 unfold fitsB at h3
 simp only [decide_eq_true_eq] at h3
 exact ⟨h1, h2, h3, h4, fun i hi => rowB_in (rowsB_at h5 i hi) h1⟩
end Go.Proofs.YtojoehdmjkgnnaaGreat
