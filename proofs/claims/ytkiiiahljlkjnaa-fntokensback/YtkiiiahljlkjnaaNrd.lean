/-
  The program's newReader.
-/
import Derived.Test.YtkiiiahljlkjnaaNle
namespace Go.Proofs.Ytkiiiahljlkjnaa
open Go.RowKit
set_option linter.unusedVariables false
set_option linter.unusedSimpArgs false

/-- A reader in its block g, its table in block t. -/
structure Rdr (w : World) (g t lo : Nat) (zs : List Int) (s : ByteArray) (a st : Int) : Prop where
  rd : w.heap[g]? = some (.cells #[.func (.func 41) #[.pointer (some ⟨t, 0, none⟩)] #[], .string s, .int .i64 a, .int .i64 st] 59 (0, 0))
  tb : Blk w t zs
  lg : lo ≤ g
  lt : lo ≤ t

set_option maxRecDepth 20000 in
set_option maxHeartbeats 4000000 in
theorem newReader_yes {v : Value} {zs : List Int} {s : ByteArray} {a st : Int} {w : World} (h : Row w v zs) (h1 : catsB zs = true) (h2 : s.size ≤ 65536) (h3 : 0 ≤ a) (h4 : a ≤ s.size) (h5 : 0 ≤ st) (h6 : st ≤ 2) :
    Calls Try.prog 28 #[v, .string s, .int .i64 a, .int .i64 st] w fun e w' => ∃ g t, e = .returned (.tuple #[.pointer (some ⟨g, 0, none⟩), .bool true]) ∧ Rdr w' g t w.heap.size zs s a st ∧ Below w.heap.size w w' := by
  have CT := hideP (tableOf_any h)
  have H1 := hideP h1
  obtain ⟨ao, n, cap, rfl, _, _⟩ := h
  obtain ⟨hv, hi⟩ := zero_of_info Try.info61
  rw [cellsI_zero] at hv
  obtain ⟨os, ho⟩ : ∃ os : List Int, os = List.replicate 256 0 := ⟨_, rfl⟩
  rw [← ho] at hv
  have hol : os.length = 256 := by rw [ho, List.length_replicate]
  obtain ⟨k, rfl⟩ : ∃ k : Nat, a = (k : Int) := ⟨a.toNat, by omega⟩
  have b1 : decide (65536 < (s.size : Int)) = false := by simp; omega
  have b3 : decide ((s.size : Int) < (k : Int)) = false := by simp; omega
  have b4 : decide (st < 0) = false := by simp; omega
  have b5 : decide (2 < st) = false := by simp; omega
  have b6 : decide (s.size < k) = false := by simp; omega
  have b7 : ¬ s.size < k := by omega
  have hk : k ≤ s.size := by omega
  have H256 := hideP (catsB_256 h1)
  clear ho hi h2 h3 h4 h5 h6 h1
  go_enter Try.func28, Try.ntmps28
  go_wp2_with fail
  refine CT.out.mono ?_
  rintro e w1 ⟨⟨gs, rfl, hgl, hgz⟩, hb1⟩
  have hgz2 := hgz H1.out
  subst hgz2
  clear hgz
  rw [H1.out]
  have hst := Blk.store (ys := gs) (Blk.new w1 os) hol hgl
  have hcs : (cellsI gs).size = 256 := by rw [cellsI_size, hgl]
  have hco : (cellsI os).size = 256 := by rw [cellsI_size, hol]
  have B1 := hideP hb1
  have T1 : Hid (Blk ((w1.alloc (.cells (cellsI os) 61)).setRow w1.heap.size (cellsI gs)) w1.heap.size gs) := hideP ((Blk.new w1 os).setRow gs)
  clear hb1
  have hz1 : w.heap.size ≤ w1.heap.size := B1.out.size
  have R1 : Hid (Below w.heap.size w ((w1.alloc (.cells (cellsI os) 61)).setRow w1.heap.size (cellsI gs))) := hideP (Below.setRow (B1.out.alloc hz1 _) hz1 _)
  have N1 : Hid (∀ o, (((w1.alloc (.cells (cellsI os) 61)).setRow w1.heap.size (cellsI gs)).alloc (.cells o 59)).heap[w1.heap.size + 1]? = some (.cells o 59 (0, 0))) := hideP (fun o => by
    have hsz : ((w1.alloc (.cells (cellsI os) 61)).setRow w1.heap.size (cellsI gs)).heap.size = w1.heap.size + 1 := by simp
    have h := heap_alloc_new ((w1.alloc (.cells (cellsI os) 61)).setRow w1.heap.size (cellsI gs)) (.cells o 59)
    rw [hsz] at h
    exact h)
  go_wp2
  refine bodyPost_ret (v := .tuple #[.pointer (some ⟨w1.heap.size + 1, 0, none⟩), .bool true]) (by simp [results, Try.results28, go_sem]) rfl ?_
  refine ⟨w1.heap.size + 1, w1.heap.size, rfl, ⟨N1.out _, T1.out.alloc _, by omega, hz1⟩, R1.out.alloc R1.out.size _⟩

/-- The category that a table tells. -/
theorem cat_any {t c : Nat} {zs : List Int} {w : World} (h : Blk w t zs) (hz : zs.length = 256) (hc : c ≤ 255) :
    Calls Try.prog 41 #[.pointer (some ⟨t, 0, none⟩), .int .u8 (c : Int)] w fun e w' => e = .returned (.int .i64 (zs.getD c 0)) ∧ w' = w := by
  have hcl := h.cell c (by omega)
  have hlt := h.lt
  have hci : (c : Int) < 256 := by omega
  go_enter Try.func41, Try.ntmps41
  go_wp2
  go_ret
  exact ⟨rfl, rfl⟩
end Go.Proofs.Ytkiiiahljlkjnaa
