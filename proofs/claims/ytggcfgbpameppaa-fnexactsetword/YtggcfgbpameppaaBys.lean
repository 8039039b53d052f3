/-
  Rows of bytes: copied and compared; sizes compared; how a word that comes in reads.
-/
import Derived.Test.YtggcfgbpameppaaOpn
import Derived.Test.YtggcfgbpameppaaWrd
import Derived.Deep.RegionWith
namespace Go.Proofs.Ytggcfgbpameppaa
open Go.ChangeShapes Go.WideShapes Go.ChangeAt Go.RowKit Go.Joins
set_option linter.unusedVariables false
set_option linter.unusedSimpArgs false

theorem Try.info5 : (Try.prog.info? 5).map (fun i => (i.zero, i.size, i.bytes)) = some (some (.int .u8 0), 1, 1) := by kernel_rfl
set_option maxHeartbeats 4000000 in
theorem toByteS_any {v : Value} {xs : List Int} {w : World} (h : BRow 0 w v xs) (hs : xs.length ≤ 1048576) :
    Calls Try.prog 16 #[v] w fun e w' => ∃ v', e = .returned v' ∧ BRow w.heap.size w' v' xs ∧ Below w.heap.size w w' := by
  have HR := hideP h
  obtain ⟨ao, cap, rfl⟩ := h.shape
  obtain ⟨n, hn⟩ : ∃ n, n = xs.length := ⟨_, rfl⟩
  rw [← hn] at HR
  rw [← hn]
  have hsz : n ≤ 1048576 := by rw [hn]; exact hs
  have HL := hideP hn
  obtain ⟨i0, hi, hz0, hz1, hz2⟩ := info_parts Try.info5
  have HI : Hid (i0.bytes = 1) := hz2
  clear h hs hn
  go_enter Try.func16, Try.ntmps16
  go_wp2_with (first
    | (refine wpList_make_full _ rfl _ _ 44 rfl w.heap.size 5 i0 (.int .u8 0) 1 Try.underlying44 hi hz0 hz1 _ _ _ _ n rfl rfl rfl rfl (by rw [show i0.bytes = 1 from HI]; omega) (by unfold maxLen; omega) (Nat.le_refl _) ?_; intro w1 hown hgrow))
  have hbel : Below w.heap.size w w1 := Below.grown (Below.refl _ _) hgrow (Nat.le_refl _) (by simp)
  have HO : Hid (SPart 1 BR 0 5 w1 w.heap.size n 0 xs ∧ Below w.heap.size w w1) := by
    refine ⟨?_, hbel⟩
    rcases hown.2 with ⟨h', _⟩ | ⟨g', cap', cur, h', _, hg, _, _, hcs, _⟩
    · simp at h'
    · simp only [Value.slice.injEq, Option.some.injEq, Addr.mk.injEq, and_true, true_and] at h'
      obtain ⟨rfl, rfl⟩ := h'
      exact SPart.new hg hcs
  clear hown hgrow hbel
  go_wp2
  go_loopw [4] (fun i wr => ∃ k : Nat, k ≤ n ∧ i = .int .i64 k ∧ Hid (SPart 1 BR 0 5 wr w.heap.size n k xs ∧ Below w.heap.size w wr)) (fun i _ => n - (intOf i).toNat)
  case atStart => exact ⟨0, by omega, rfl, HO⟩
  case round =>
    obtain ⟨k, hk, rfl, HP⟩ := hrel
    clear HO
    by_cases hkn : k < n
    · have hki : (k : Int) < (n : Int) := by omega
      obtain ⟨b, off, rfl, hb, g0, hx0, hx1⟩ := HR.out.cell HP.out.2 hkn
      obtain ⟨t, ht⟩ : ∃ t, t = xs.getD k 0 := ⟨_, rfl⟩
      rw [← ht] at g0 hx0 hx1
      have HT := hideP ht
      clear ht
      have hfz := HP.out.1.free
      obtain ⟨x0, hx00⟩ := HP.out.1.cells k (by omega)
      have hlt2 := HP.out.1.lt
      go_wp2
      first | (go_region; go_wp2) | skip
      go_roundw
      case rel => exact ⟨k + 1, by omega, by go_num, hideP ⟨by have h := SPart.put bStable HP.out.1 hkn (cs := [.int .u8 t]) rfl (by rw [← HT.out]; exact ⟨rfl, hx0, hx1⟩); rw [Nat.mul_one] at h; exact h, by have h := putC_below (Nat.le_refl _) [.int .u8 t] k _ HP.out.2; exact h⟩⟩
      case measure => simp [intOf]; omega
    · have hki : ¬ (k : Int) < (n : Int) := by omega
      obtain rfl : k = n := by omega
      go_wp2
      go_ret
      exact ⟨_, rfl, SPart.row bStable HP.out.1 HL.out.symm, HP.out.2⟩

set_option maxHeartbeats 4000000 in
theorem eqByteS_same {v1 v2 : Value} {xs : List Int} {w : World} (h1 : BRow 0 w v1 xs) (h2 : BRow 0 w v2 xs) (hs : xs.length ≤ 1048576) :
    Calls Try.prog 19 #[v1, v2] w fun e w' => e = .returned (.bool true) ∧ Below w.heap.size w w' := by
  have HR1 := hideP h1
  have HR2 := hideP h2
  obtain ⟨ao1, cap1, rfl⟩ := h1.shape
  obtain ⟨ao2, cap2, rfl⟩ := h2.shape
  obtain ⟨n, hn⟩ : ∃ n, n = xs.length := ⟨_, rfl⟩
  rw [← hn] at HR1 HR2
  rw [← hn]
  have hsz : n ≤ 1048576 := by rw [hn]; exact hs
  clear h1 h2 hs hn
  go_enter Try.func19, Try.ntmps19
  go_wp2
  go_loopw [5] (fun i wr => ∃ k : Nat, k ≤ n ∧ i = .int .i64 k ∧ Hid (Below w.heap.size w wr)) (fun i _ => n - (intOf i).toNat)
  case atStart => exact ⟨0, by omega, rfl, hideP (Below.refl _ _)⟩
  case round =>
    obtain ⟨k, hk, rfl, HB⟩ := hrel
    by_cases hkn : k < n
    · have hki : (k : Int) < (n : Int) := by omega
      obtain ⟨b, off, rfl, hb, g0, _, _⟩ := HR1.out.cell HB.out hkn
      obtain ⟨b', off', rfl, hb', f0, _, _⟩ := HR2.out.cell HB.out hkn
      obtain ⟨t, ht⟩ : ∃ t, t = xs.getD k 0 := ⟨_, rfl⟩
      rw [← ht] at g0 f0
      clear ht
      go_wp2
      go_quiet (fail)
      go_wp2
      go_roundw
      case rel => exact ⟨k + 1, by omega, by go_num, hideP (below_drewN HB.out _)⟩
      case measure => simp [intOf]; omega
    · have hki : ¬ (k : Int) < (n : Int) := by omega
      go_wp2
      go_ret
      exact ⟨rfl, HB.out⟩

theorem eqSize_same (a b c : Int) (w : World) : Calls Try.prog 26 #[.agg #[.int .i64 a, .int .i64 b, .int .i64 c], .agg #[.int .i64 a, .int .i64 b, .int .i64 c]] w fun r w' => r = .returned (.bool true) ∧ Below w.heap.size w w' := by
  go_enter Try.func26, Try.ntmps26
  go_wp2
  go_ret
  exact ⟨rfl, below2 _ _ _⟩

theorem cells5 : Try.prog.cellsOf 5 = 1 := by kernel_rfl
theorem list1 {α : Type} {cs : List α} (h : cs.length = 1) : ∃ c0, cs = [c0] := by
  match cs, h with
  | [c0], _ => exact ⟨c0, rfl⟩
set_option maxRecDepth 100000 in
theorem openBytes {H : Type} {enc : TypeId × Value → H} {w : World} {r : Reach} {b0 : Nat} {v : Value} {d : DataW H} {p : List MemPlace}
    (hv : Value.okWide Try.prog w r b0 44 v) (h : DataW.Trod enc Try.prog w 0 (fun _ => true) true 44 v d p) : ∃ bs : List Int, BRow 0 w v bs ∧ bs.length ≤ 9223372036854775807 := by
  obtain ⟨fuel, hf⟩ := h
  obtain ⟨ao, n, cap, rfl⟩ : ∃ ao n cap, v = .slice ao n cap := by
    simp only [Value.okWide, Try.underlying44] at hv
    cases v <;> simp_all [Cell.okWide, Cell.ok]
  obtain ⟨bs, h1, h2, _⟩ := openSlice (R := BR) (F := fun _ => True) (0 : Int) Try.underlying44 cells5 (by omega) (fun fuel cs y ht hl => by
    obtain ⟨c0, rfl⟩ := list1 hl
    obtain ⟨z, e, _, hw⟩ := DataW.trod_int Try.underlying5 ht
    simp [Lit.wf, IntKind.min, IntKind.max, IntKind.signed, IntKind.bits] at hw
    exact ⟨z, ⟨e, by omega, by omega⟩, trivial⟩) (by simpa [Value.cells] using hf)
  exact ⟨bs, h1, h2⟩
end Go.Proofs.Ytggcfgbpameppaa
