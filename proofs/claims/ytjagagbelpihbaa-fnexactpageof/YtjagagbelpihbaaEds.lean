/-
  Whether a page may reach from one place to another: the program.
-/
import Derived.Test.YtjagagbelpihbaaPbr
namespace Go.Proofs.Ytjagagbelpihbaa
open Go.RowKit
set_option linter.unusedVariables false
set_option linter.unusedSimpArgs false

def endsB (ys : List It) (a b : Int) : Bool := decide (0 ≤ a ∧ a ≤ b ∧ b ≤ (ys.length : Int)) && pbB ys b.toNat
set_option maxRecDepth 20000 in
set_option maxHeartbeats 4000000 in
theorem ends_any {w : World} {C N uc base : Nat} {ua : Option Addr} {ys : List It} (a b : Int) (hC : w.cell? ⟨C, 9, none⟩ = some (.slice ua N uc)) (hr : w.ownsRow base 141 3 (.slice ua N uc) N (flatI ys)) (hl : ys.length = N) (hN : N ≤ 20000) :
    Calls Try.prog 49 #[.pointer (some ⟨C, 0, none⟩), .int .i64 a, .int .i64 b] w fun e w' => e = .returned (.bool (endsB ys a b)) ∧ Below w.heap.size w w' := by
  have hCl : C < w.heap.size := World.block_lt_of_cell? w _ hC
  by_cases h0 : a < 0
  · have HE : Hid (endsB ys a b = false) := hideP (by unfold endsB; rw [decide_eq_false (by omega)]; rfl)
    rw [HE.out]
    clear hr HE
    go_enter Try.func49, Try.ntmps49
    go_wp2
    go_ret
    exact ⟨rfl, Below.refl _ _⟩
  · have h0b : decide (a < 0) = false := decide_eq_false h0
    by_cases h1 : b < a
    · have HE : Hid (endsB ys a b = false) := hideP (by unfold endsB; rw [decide_eq_false (by omega)]; rfl)
      rw [HE.out]
      clear hr HE
      go_enter Try.func49, Try.ntmps49
      go_wp2
      go_ret
      exact ⟨rfl, Below.refl _ _⟩
    · have h1b : decide (b < a) = false := decide_eq_false h1
      by_cases h2 : (N : Int) < b
      · have HE : Hid (endsB ys a b = false) := hideP (by unfold endsB; rw [decide_eq_false (by omega)]; rfl)
        rw [HE.out]
        clear hr HE
        go_enter Try.func49, Try.ntmps49
        go_wp2
        go_ret
        exact ⟨rfl, Below.refl _ _⟩
      · have h2b : decide ((N : Int) < b) = false := decide_eq_false h2
        obtain ⟨bn, rfl⟩ : ∃ bn : Nat, b = (bn : Int) := ⟨b.toNat, by omega⟩
        have HE : Hid (endsB ys a (bn : Int) = pbB ys bn) := hideP (by unfold endsB; rw [decide_eq_true (by omega), Bool.true_and, Int.toNat_natCast])
        rw [HE.out]
        have BC : Hid (Calls Try.prog 46 #[.pointer (some ⟨C, 0, none⟩), .int .i64 (bn : Int)] w fun e w' => (∃ c : Int, e = .returned (.tuple #[.int .i64 c, .bool (pbB ys bn)])) ∧ Below w.heap.size w w') := hideP (brk46 bn hC hr hl (by omega) hN)
        clear hr HE
        go_enter Try.func49, Try.ntmps49
        go_wp2_with fail
        refine BC.out.mono ?_
        rintro e w2 ⟨⟨c, rfl⟩, hb2⟩
        have B2 := hideP hb2
        clear hb2
        go_wp2
        go_ret
        exact ⟨rfl, B2.out⟩
end Go.Proofs.Ytjagagbelpihbaa
