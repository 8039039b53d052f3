import Derived.Test.YtlohbaoigfaneaaGreatDpu
import Derived.Test.YtlohbaoigfaneaaGreatLis
import Derived.Test.YtlohbaoigfaneaaGreatLnn
import Derived.Test.YtlohbaoigfaneaaGreatLms
namespace Go.Proofs.YtlohbaoigfaneaaGreat
open Go.RowKit
set_option linter.unusedVariables false
set_option linter.unusedSimpArgs false
def OldW (w W : World) : Prop := w.os = W.os ∧ w.tape = W.tape ∧ w.output = W.output ∧ w.heap.size ≤ W.heap.size ∧ ∀ k, k < w.heap.size → W.heap[k]? = w.heap[k]?
theorem OldW.refl (w : World) : OldW w w := ⟨rfl, rfl, rfl, Nat.le_refl _, fun _ _ => rfl⟩
theorem OldW.bel {w A X : World} (h : OldW w A) (hb : Below A.heap.size A X) : OldW w X := ⟨h.1.trans hb.os.symm, h.2.1.trans hb.tape.symm, h.2.2.1.trans hb.output.symm, Nat.le_trans h.2.2.2.1 hb.size, fun k hk => (hb.block k (Nat.lt_of_lt_of_le hk h.2.2.2.1)).trans (h.2.2.2.2 k hk)⟩
theorem OldW.trans {w A X : World} (h : OldW w A) (g : OldW A X) : OldW w X := ⟨h.1.trans g.1, h.2.1.trans g.2.1, h.2.2.1.trans g.2.2.1, Nat.le_trans h.2.2.2.1 g.2.2.2.1, fun k hk => (g.2.2.2.2 k (Nat.lt_of_lt_of_le hk h.2.2.2.1)).trans (h.2.2.2.2 k hk)⟩
theorem OldW.alloc {w A : World} (h : OldW w A) (o : Obj) : OldW w (A.alloc o) := h.bel (below1 _ _)
theorem OldW.drew {w A : World} (h : OldW w A) : OldW w A.drew := h
theorem OldW.fr {w A X : World} {T : Nat} (h : OldW w A) (hf : Fr T A X) (hT : w.heap.size ≤ T) : OldW w X := ⟨h.1.trans hf.1.symm, h.2.1.trans hf.2.1.symm, h.2.2.1.trans hf.2.2.1.symm, Nat.le_trans h.2.2.2.1 hf.2.2.2.1, fun k hk => (hf.2.2.2.2 k (Nat.lt_of_lt_of_le hk h.2.2.2.1) (by omega)).trans (h.2.2.2.2 k hk)⟩
theorem OldW.set {w A : World} (h : OldW w A) {T : Nat} (hT : w.heap.size ≤ T) (o : Nat) (v : Value) : OldW w (A.setCell ⟨T, o, none⟩ v) := h.fr ((Fr.refl T A).set _ _) hT
theorem OldW.toB {w A : World} (h : OldW w A) : Below w.heap.size w A := ⟨h.1.symm, h.2.1.symm, h.2.2.1.symm, h.2.2.2.1, fun k hk => h.2.2.2.2 k hk⟩
theorem heads_at {lo : Nat} {w : World} {v : Value} {ys : List It} {N i : Nat} (h : Heads lo w v ys) (hl : ys.length = N) (hi : i < N) : ∃ b off cap b2 off2 n2 cap2, v = .slice (some ⟨b, off, none⟩) N cap ∧ b < w.heap.size ∧ w.cell? ⟨b, off + i, none⟩ = some (.slice (some ⟨b2, off2, none⟩) n2 cap2) ∧ 0 < n2 ∧ b2 < w.heap.size ∧ w.rangeAt b2 off2 (ys.getD i It.none).1.cells := by
 obtain ⟨ao, cap, rfl, hc⟩ := h.is
 rw [hl] at hc ⊢
 obtain ⟨b, off, rfl, _, hbl, hcell⟩ := hc (by omega)
 obtain ⟨u, rest, hu, hrow⟩ := hcell i hi
 obtain ⟨b2, off2, n2, cap2, rfl, hn2, hb2, hcs⟩ := head_cells hrow
 refine ⟨b, off, cap, b2, off2, n2, cap2, rfl, hbl, hu, hn2, hb2, fun j z hz => ?_⟩
 rw [hcs j (by have := (List.getElem?_eq_some_iff.1 hz).1; rw [cells_len] at this; exact this)]
 exact hz
def GrW (row : Option Nat) (w W : World) : Prop := W.os = w.os ∧ W.tape = w.tape ∧ W.output = w.output ∧ w.heap.size ≤ W.heap.size ∧ ∀ k, k < w.heap.size → row ≠ some k → W.heap[k]? = w.heap[k]?
end Go.Proofs.YtlohbaoigfaneaaGreat
