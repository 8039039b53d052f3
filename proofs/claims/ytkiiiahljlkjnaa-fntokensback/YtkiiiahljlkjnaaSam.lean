/-
  Tokens held against each other by the language's own comparison.
-/
import Derived.Test.YtkiiiahljlkjnaaTim
import Derived.Laws.StructEq
namespace Go.Proofs.Ytkiiiahljlkjnaa
open Go.RowKit
set_option linter.unusedVariables false
set_option linter.unusedSimpArgs false

theorem neqTok (c h : Int) (n : ByteArray) (w : World) : (binOp .neq 34 (.agg #[.int .i64 c, .int .i64 h, .string n]) (.agg #[.int .i64 c, .int .i64 h, .string n])).run Try.prog w = .ok (.bool false) w := by
  have u2 := Try.underlying2
  have u9 := Try.underlying9
  have hS : Try.prog.underlying 34 = some (.struct (Try.prog.fieldsOf 34)) := by kernel_rfl
  have hp : Try.prog.stoodInHeld 34 = false := by kernel_rfl
  rw [run_neq_struct, show (10000 : Nat) = 9999 + 1 from rfl, run_equalIn_agg w 9999 34 _ _ hS hp]
  simp only [Program.fieldsOf, Try.underlying34]
  go_simp

set_option maxHeartbeats 2000000 in
theorem sameTokens_same {v1 v2 : Value} {ts : List Tk} {w : World} (h1 : TRow w v1 ts) (h2 : TRow w v2 ts) (hx : ts.length ≤ 1048576) :
    Calls Try.prog 12 #[v1, v2] w fun e w' => e = .returned (.bool true) ∧ Below w.heap.size w w' := by
  obtain ⟨ao1, n1, cap1, rfl, hn1, hr1⟩ := h1
  obtain ⟨ao2, n2, cap2, rfl, hn2, hr2⟩ := h2
  obtain rfl : n1 = n2 := by omega
  rw [hn1] at hx
  have HR1 := hideP hr1
  have HR2 := hideP hr2
  clear hn1 hn2 hr1 hr2
  go_enter Try.func12, Try.ntmps12
  go_wp2
  go_loopw [5] (fun i wr => ∃ k : Nat, k ≤ n1 ∧ i = .int .i64 k ∧ Hid (Below w.heap.size w wr)) (fun i _ => n1 - (intOf i).toNat)
  case atStart => exact ⟨0, by omega, rfl, hideP (Below.refl _ _)⟩
  case round =>
    obtain ⟨k, hk, rfl, HB⟩ := hrel
    by_cases hkn : k < n1
    · have hki : (k : Int) < (n1 : Int) := by omega
      obtain ⟨b, off, rfl, hb, hc⟩ := HR1.out (by omega)
      obtain ⟨b', off', rfl, hb', hc'⟩ := HR2.out (by omega)
      obtain ⟨t, ht⟩ : ∃ t, t = ts.getD k Tk.none := ⟨_, rfl⟩
      obtain ⟨hc0, hc1, hc2⟩ := hc k hkn
      obtain ⟨hd0, hd1, hd2⟩ := hc' k hkn
      rw [← ht] at hc0 hc1 hc2 hd0 hd1 hd2
      obtain ⟨tc, th, tn⟩ := t
      have g0 := (HB.out.cell (p := ⟨b, off + k * 3, none⟩) hb).trans hc0
      have g1 := (HB.out.cell (p := ⟨b, off + k * 3 + 1, none⟩) hb).trans hc1
      have g2 := (HB.out.cell (p := ⟨b, off + k * 3 + 2, none⟩) hb).trans hc2
      have f0 := (HB.out.cell (p := ⟨b', off' + k * 3, none⟩) hb').trans hd0
      have f1 := (HB.out.cell (p := ⟨b', off' + k * 3 + 1, none⟩) hb').trans hd1
      have f2 := (HB.out.cell (p := ⟨b', off' + k * 3 + 2, none⟩) hb').trans hd2
      simp only at g0 g1 g2 f0 f1 f2
      have hnq := neqTok tc th tn
      have HBD : Hid (Below w.heap.size w wr.drew) := hideP HB.out.drew
      clear hc hc' hc0 hc1 hc2 hd0 hd1 hd2 ht
      go_wp2
      go_region
      go_wp2
      go_roundw
      case rel => exact ⟨k + 1, by omega, by go_num, HBD⟩
      case measure => simp [intOf]; omega
    · have hki : ¬ (k : Int) < (n1 : Int) := by omega
      go_wp2
      go_ret
      exact ⟨rfl, HB.out⟩
theorem TRow.take {W : World} {t : Option Addr} {m c : Nat} {T : List Tk} (h : TRow W (.slice t m c) T) {k : Nat} (hk : k ≤ m) : TRow W (.slice t k c) (T.take k) := by
  obtain ⟨ao, n, cap, e, hn, hr⟩ := h
  injection e with e1 e2 e3
  subst e1 e2 e3
  refine ⟨t, k, c, rfl, by rw [List.length_take]; omega, fun hp => ?_⟩
  obtain ⟨b, off, rfl, hb, hc⟩ := hr (by omega)
  refine ⟨b, off, rfl, hb, fun i hi => ?_⟩
  have e : (T.take k).getD i Tk.none = T.getD i Tk.none := by
    simp [List.getD, List.getElem?_take, hi]
  rw [e]
  exact hc i (by omega)
end Go.Proofs.Ytkiiiahljlkjnaa
