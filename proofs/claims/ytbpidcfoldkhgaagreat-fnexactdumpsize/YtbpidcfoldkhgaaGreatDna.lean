import Derived.Test.YtbpidcfoldkhgaaGreatDbl
namespace Go.Proofs.YtbpidcfoldkhgaaGreat
open Go.RowKit
set_option linter.unusedVariables false
set_option linter.unusedSimpArgs false
theorem n62 {n : Nat} (h : n ≤ 4611686018427387903) : n < 128 ^ (9 + 1) := by
 have : (128 : Nat) ^ (9 + 1) = 1180591620717411303424 := by decide
 omega
theorem m_div {m f : Nat} (h : m < 128 ^ (f + 1)) (h1 : 128 ≤ m) : ∃ g, f = g + 1 ∧ m / 128 < 128 ^ (g + 1) := by
 cases f with
 | zero => simp at h; omega
 | succ g =>
  refine ⟨g, rfl, ?_⟩
  rw [Nat.pow_succ] at h
  exact Nat.div_lt_of_lt_mul (by rw [Nat.mul_comm]; exact h)
theorem num_len {zs : List Int} {ys : List Int} {f m n : Nat} (h : ys ++ numF f m = zs ++ numB n) : ys.length + 1 ≤ zs.length + (numB n).length := by
 have h1 := congrArg List.length h
 simp only [List.length_append] at h1
 have h2 : 1 ≤ (numF f m).length := by
  cases f with
  | zero => simp [numF]
  | succ f =>
   rw [numF]
   split <;> simp
 omega
set_option maxRecDepth 20000 in
set_option maxHeartbeats 4000000 in
theorem l15Num_any {W : World} {base n : Nat} {v : Value} {zs : List Int} (h : BO base W v zs) (hb : base ≤ W.heap.size) (hn : n ≤ 4611686018427387903) (hl : zs.length + (numB n).length ≤ 70368744177664) :
 Calls Tryz.prog 18 #[v, .int .u64 (n : Int)] W fun e W' => PutQ base v W (zs ++ numB n) e W' := by
 have HL := hideP hl
 have HO := hideP h
 have HN := hideP hn
 clear h hl hn
 go_enter Tryz.func18, Tryz.ntmps18
 go_wp2
 go_loopw [0, 1] (fun s0 s1 wr => ∃ (f m : Nat) (ys : List Int), s1 = .int .u64 (m : Int) ∧ (m < 128 ^ (f + 1) ∧ m ≤ n) ∧ ys ++ numF f m = zs ++ numB n ∧ BO base wr s0 ys ∧ GO v W s0 wr) (fun _ s _ => (intOf s).toNat)
 case atStart => exact ⟨9, n, zs, rfl, ⟨n62 HN.out, Nat.le_refl _⟩, rfl, HO.out, GO.refl _ _⟩
 case round =>
  obtain ⟨f, m, ys, rfl, ⟨hm, hmn⟩, hy, ho, hB⟩ := hrel
  have HB := hideP hB
  have HO1 := hideP ho
  have HY := hideP hy
  have hbs : base ≤ wr.heap.size := Nat.le_trans hb hB.size
  have HM := hideP hm
  have hm6 : (m : Int) ≤ 4611686018427387903 := by have := HN.out; omega
  have HYL : Hid (ys.length + 1 ≤ 70368744177664) := hideP (by have := num_len hy; have := HL.out; omega)
  clear hB ho hy hm
  by_cases h128 : m < 128
  ·have h1 : ¬ (128 : Int) ≤ (m : Int) := by omega
   go_wp2_with (at_builtin; refine wpList_byte rfl _ _ rfl rfl rfl (BO.alloc HO1.out _) (cell_new _ _ _) (by simp; omega) HYL.out ?_)
   intro v2 w2 ho2 hb2
   have O2 := hideP ho2
   have B2 := hideP (HB.out.trans ((GO.of_below (below1 wr _)).trans hb2))
   clear ho2 hb2
   go_wp2
   go_ret
   refine ⟨_, rfl, ?_, B2.out⟩
   have h := HY.out
   rw [numF_small h128] at h
   rw [← h]
   exact O2.out
  ·have h1 : (128 : Int) ≤ (m : Int) := by omega
   go_wp2_with (at_builtin; refine wpList_byte rfl _ _ rfl rfl rfl (BO.alloc HO1.out _) (cell_new _ _ _) (by simp; omega) HYL.out ?_)
   intro v2 w2 ho2 hb2
   have O2 := hideP ho2
   have B2 := hideP (HB.out.trans ((GO.of_below (below1 wr _)).trans hb2))
   obtain ⟨a2, c2, rfl⟩ := BO.shape ho2
   clear ho2 hb2
   go_wp2
   go_roundw
   case rel =>
    obtain ⟨g, rfl, hg⟩ := m_div HM.out (by omega)
    refine ⟨g, m / 128, _, by simp, ⟨hg, Nat.le_trans (Nat.div_le_self _ _) hmn⟩, ?_, O2.out, B2.out⟩
    have h := HY.out
    rw [numF, if_neg h128] at h
    rw [← h]
    simp
   case measure => simp [intOf]; omega
end Go.Proofs.YtbpidcfoldkhgaaGreat
