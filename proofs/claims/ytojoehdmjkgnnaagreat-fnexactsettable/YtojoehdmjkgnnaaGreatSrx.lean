import Derived.Test.YtojoehdmjkgnnaaGreatTwi
import Derived.Test.YtojoehdmjkgnnaaGreatTin
import Derived.Deep.DeepCutAuto
namespace Go.Proofs.YtojoehdmjkgnnaaGreat
open Go.RowKit
set_option linter.unusedVariables false
set_option linter.unusedSimpArgs false
set_option maxRecDepth 20000 in
set_option maxHeartbeats 8000000 in
theorem rowSet_any {w0 w : World} {S G A cols n0 : Nat} {gs gp gpo gm gmo ru : Int} {u lv : Value} {f : Nat → Int} {L0 : List Value} {cs : List Cl} {cv : Value} {ps : List Pl}
 (hb0 : Below w0.heap.size w0 w) (hS0 : w0.heap.size ≤ S) (hS : w.heap[S]? = some (stO G A lv)) (hG : w.heap[G]? = some (grO (cols : Int) gs gp gpo gm gmo u)) (hA : ArrAt w A f) (hf : Bd f) (h1 : 1 ≤ cols) (h2 : cols ≤ 20) (hgs : -1073741823 ≤ gs ∧ gs ≤ 1073741823) (o : w.ownsRow w0.heap.size 36 15 lv n0 L0) (ol : w.ownsRow w0.heap.size 123 5 cv cs.length (flatP ps)) (hp : PlOk w0 cs ps cs.length) (hin : RowIn cs (cols : Int)) :
 Calls Tryz.prog 56 #[.pointer (some ⟨S, 0, none⟩), .agg #[.int .i64 ru, cv]] w fun e w' => ∃ a c lv' n' L', e = .returned (.slice a (rowR f gs (gapN gs gp gpo gm gmo) (cols : Int) ⟨cs, ru⟩).length c) ∧ w'.ownsRow w.heap.size 36 15 (.slice a (rowR f gs (gapN gs gp gpo gm gmo) (cols : Int) ⟨cs, ru⟩).length c) (rowR f gs (gapN gs gp gpo gm gmo) (cols : Int) ⟨cs, ru⟩).length (flatN (rowR f gs (gapN gs gp gpo gm gmo) (cols : Int) ⟨cs, ru⟩)) ∧ w'.heap[S]? = some (stO G A lv') ∧ w'.ownsRow w0.heap.size 36 15 lv' n' L' ∧ (∀ b, lv'.ownBlock = some b → lv.ownBlock = some b ∨ w.heap.size ≤ b) ∧ Frs (fun b => b = S ∨ lv.ownBlock = some b) w w' := by
 by_cases hru : 0 < ru
 ·have hSl : S < w.heap.size := (glt hS)
  have e : rowR f gs (gapN gs gp gpo gm gmo) (cols : Int) ⟨cs, ru⟩ = hpR [rulN (acr f gs 0 (cols - 1)) ru] 0 0 := by
   unfold rowR
   rw [if_pos hru, show ((cols : Int)).toNat = cols by omega]
  rw [e]
  obtain ⟨ca, cc, rfl⟩ := ownG_shape ol
  have HL : Hid (∀ W, Below w.heap.size w W → Calls Tryz.prog 95 #[.pointer (some ⟨S, 0, none⟩), .int .i64 ru] W _) := hideP (fun W hW => line_any ru ((hW.block _ hSl).trans hS) ((hW.block _ (glt hG)).trans hG) (hA.below hW) hf h1 h2 hgs)
  obtain ⟨R, hR⟩ := exq (hpR [rulN (acr f gs 0 (cols - 1)) ru] 0 0)
  rw [← hR] at HL ⊢
  have HS := hideP hS
  have HO := hideP o
  have hrd : decide (0 < ru) = true := decide_eq_true hru
  clear hS hG hA hf hgs o ol hp hin hb0 e hR
  go_enter Tryz.func56, Tryz.ntmps56
  go_wp2_with fail
  refine (HL.out _ (below1 _ _)).mono ?_
  rintro e w1 ⟨a, c, rfl, ho, hb⟩
  have B1 := hideP (below_more (below1 _ _) hb (by simp))
  have O1 := hideP (ownG_base ho (show w.heap.size ≤ _ by simp))
  clear ho hb HL
  go_wp2
  go_ret
  exact ⟨a, c, lv, n0, L0, rfl, O1.out, (B1.out.block _ hSl).trans HS.out, ownG_below HO.out B1.out, fun b hb => .inl hb, (Frs.refl _ _).below B1.out⟩
 ·exact rowSet_cells hru hb0 hS0 hS hG hA hf h1 h2 hgs o ol hp hin
end Go.Proofs.YtojoehdmjkgnnaaGreat
