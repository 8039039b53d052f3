import Derived.Test.YtlohbaoigfaneaaGreatHlp
import Derived.Test.YtlohbaoigfaneaaGreatNdo
import Derived.Test.YtlohbaoigfaneaaGreatLnn
import Derived.Test.YtlohbaoigfaneaaGreatSme
import Derived.Test.YtlohbaoigfaneaaGreatMak
import Derived.Test.YtlohbaoigfaneaaGreatPay
namespace Go.Proofs.YtlohbaoigfaneaaGreat
open Go.RowKit
set_option linter.unusedVariables false
set_option linter.unusedSimpArgs false
set_option maxRecDepth 20000 in
set_option maxHeartbeats 4000000 in
theorem starts9_any {v : Value} {xs : List Nd} {w : World} (h : NRow 0 w v xs) (hlen : xs.length ≤ 20010) (hkids : ∀ i, i < xs.length → 0 ≤ (xs.getD i Nd.none).kids ∧ (xs.getD i Nd.none).kids ≤ 20010) :
 Calls Tryz.prog 87 #[v] w fun e w' => (∃ u, e = .returned u ∧ IR w' w.heap.size u (starts xs (xs.length + 1) 0).length (natI (starts xs (xs.length + 1) 0))) ∧ Below w.heap.size w w' := by
 obtain ⟨ao, n, cap, rfl, hl, hr⟩ := h
 have HL := hideP hl
 have HR : Hid (0 < n → ∃ b off, ao = some ⟨b, off, none⟩ ∧ 0 ≤ b ∧ b < w.heap.size ∧ ∀ i, i < n → ∃ cs : List Value, cs.length = 15 ∧ NdR 0 w cs (xs.getD i Nd.none) ∧ ∀ j, j < 15 → w.cell? ⟨b, off + i * 15 + j, none⟩ = cs[j]?) := hideP hr
 have HK := hideP hkids
 have hn : n ≤ 20010 := by rw [← hl]; exact hlen
 obtain ⟨Z, hZ⟩ : ∃ Z, Z = starts xs (xs.length + 1) 0 := ⟨_, rfl⟩
 rw [← hZ]
 have HZ := hideP hZ
 clear hr hl hkids hlen hZ
 go_enter Tryz.func87, Tryz.ntmps87
 go_wp2
 go_loopw [3, 4] (fun s a wr => ∃ (i f : Nat) (pre : List Nat) (g c r : Nat), a = .int .i64 (i : Int) ∧ i ≤ 40021 ∧ n < i + f ∧ Hid (pre ++ starts xs f i = Z) ∧ r ≤ i ∧ r ≤ 20011 ∧ pre.length = r ∧ s = .slice (some ⟨g, 0, none⟩) r c ∧ IR wr w.heap.size (.slice (some ⟨g, 0, none⟩) r c) r (natI pre) ∧ Below w.heap.size w wr) (fun _ a _ => n - (intOf a).toNat)
 case atStart =>
  exact ⟨0, n + 1, [], w.heap.size, 0, 0, rfl, by omega, by omega, hideP (by rw [HZ.out, ← HL.out]; rfl), by omega, by omega, rfl, rfl, ⟨rfl, .inr ⟨_, _, _, rfl, Nat.le_refl _, heap_alloc_new w _, by omega, by decide, rfl, rfl⟩⟩, below1 _ _⟩
 case round =>
  obtain ⟨i, f, pre, g, c, r, rfl, hi, hf, HP, hri, hr2, hpr, rfl, hI, hbel⟩ := hrel
  by_cases hin : i < n
  ·have hii : (i : Int) < (n : Int) := by omega
   obtain ⟨b, off, rfl, _, hb, hc⟩ := HR.out (by omega)
   obtain ⟨cs, hcl, hRel, hcj⟩ := hc i hin
   obtain ⟨t, ht⟩ : ∃ t, t = xs.getD i Nd.none := ⟨_, rfl⟩
   have hkk := HK.out i (by rw [HL.out]; exact hin)
   rw [← ht] at hRel hkk
   obtain ⟨kids, hkd⟩ : ∃ z, z = t.kids := ⟨_, rfl⟩
   rw [← hkd] at hkk
   obtain ⟨hk0, hk1⟩ := hkk
   have g14 : wr.cell? ⟨b, off + i * 15 + 14, none⟩ = some (.int .i64 kids) := (hbel.cell (p := ⟨b, off + i * 15 + 14, none⟩) hb).trans ((hcj 14 (by omega)).trans (by rw [show cs = _ from hRel, hkd]; rfl))
   obtain ⟨f, rfl⟩ : ∃ q, f = q + 1 := ⟨f - 1, by omega⟩
   have HST : Hid ((pre ++ [i]) ++ starts xs f (i + 1 + kids.toNat) = Z) := hideP (by
    have h := HP.out
    rw [show starts xs (f + 1) i = i :: starts xs f (i + 1 + (xs.getD i Nd.none).kids.toNat) by simp only [starts]; rw [if_pos (by rw [HL.out]; exact hin)]] at h
    rw [← ht, ← hkd] at h
    rw [List.append_assoc]
    exact h)
   have HI := hideP hI
   have HB := hideP hbel
   have hw1 : w.heap.size ≤ wr.heap.size := hbel.size
   have HPR := hideP hpr
   obtain ⟨i0, hi0, hy0, hy1, hy2⟩ := info_parts Tryz.info3b
   have Q14 : Hid (∀ x, Below w.heap.size w x → x.cell? ⟨b, off + i * 15 + 14, none⟩ = some (.int .i64 kids)) := hideP (fun x hx => (hx.cell (p := ⟨b, off + i * 15 + 14, none⟩) hb).trans ((hcj 14 (by omega)).trans (by rw [show cs = _ from hRel, hkd]; rfl)))
   clear hc hcj hcl ht hRel hI hbel hkd g14
   go_wp2_with (at_builtin; refine wpList_append_own_at _ rfl _ _ 182 rfl w.heap.size 3 i0 (.int .i64 0) 1 8 Tryz.underlying182 hi0 hy0 hy1 hy2 rfl (by decide) _ _ _ rfl (HI.out.alloc _) ⟨wr.heap.size, 0, none⟩ 1 1 [.int .i64 (i : Int)] rfl rfl (cell_one_new _ _ _) (by intro u hu; simp at hu; subst hu; rfl) (by unfold maxLen; omega) (by omega) (by simp; omega) ?_; intro v6 w6 hown6 hgrow6 hnil6 hlies6; have hg6 : (wr.alloc (.cells #[.int .i64 (i : Int)] 3)).grownBy w6 (some g) := hgrow6; have hB6 : Below w.heap.size w w6 := Below.grown (HB.out.alloc hw1 _) hg6 (by simp; omega) (by intro j hj; simp at hj; subst hj; exact (stk_cap HI.out).2.2.1); have hk6 := Q14.out w6 hB6; have H6 := hideP (And.intro hown6 hB6); clear hown6 hgrow6 hnil6 hlies6 hg6 hB6)
   have hI6 : IR w6 w.heap.size v6 (r + 1) (natI (pre ++ [i])) := by
    show w6.ownsRow w.heap.size 3 1 v6 (r + 1) ((natI (pre ++ [i])).map (Value.int .i64))
    unfold natI
    rw [List.map_append, List.map_append]
    exact H6.out.1
   go_roundw
   case rel =>
    obtain ⟨g6, c6, rfl⟩ : ∃ g c, v6 = .slice (some ⟨g, 0, none⟩) (r + 1) c := by
     rcases hI6.2 with ⟨_, h⟩ | ⟨g, c, cur, h, _⟩
     ·omega
     ·exact ⟨g, c, h⟩
    exact ⟨i + 1 + kids.toNat, f, pre ++ [i], g6, c6, r + 1, congrArg _ (by omega), by omega, by omega, HST, by omega, by omega, by simp [HPR.out], rfl, hI6, H6.out.2⟩
   case measure => simp [intOf]; omega
  ·have hii : ¬ (i : Int) < (n : Int) := by omega
   have HE : Hid (pre = Z) := hideP (by
    have h := HP.out
    cases f with
    | zero => simpa [starts] using h
    | succ f =>
     rw [show starts xs (f + 1) i = [] by simp only [starts]; rw [if_neg (by rw [HL.out]; exact hin)]] at h
     simpa using h)
   have HI := hideP hI
   have HB := hideP hbel
   clear hI hbel
   go_wp2
   go_ret
   refine ⟨⟨_, rfl, ?_⟩, HB.out⟩
   rw [← HE.out, hpr]
   exact HI.out
theorem made4 {w : World} {base g : Nat} (h : w.ownsRow base 2 1 (.slice (some ⟨g, 0, none⟩) 4 4) 4 (madeCells (Value.cells (.int .i64 0)) (4 * 1)).toList) : IntsL w g 2 [0, 0, 0, 0] := by
 rcases h.2 with ⟨h0, _⟩ | ⟨g', cap, cur, e, _, hg, _, _, hs, ht⟩
 ·cases h0
 ·simp only [Value.slice.injEq, Option.some.injEq, Addr.mk.injEq, and_true, true_and] at e
  obtain ⟨rfl, rfl⟩ := e
  unfold IntsL
  rw [hg]
  have h1 : cur.toList = (madeCells (Value.cells (.int .i64 0)) (4 * 1)).toList := by
   rw [List.take_of_length_le (by rw [Array.length_toList, hs]; exact Nat.le_refl _)] at ht
   exact ht
  have h2 : cur = #[.int .i64 0, .int .i64 0, .int .i64 0, .int .i64 0] := by
   apply Array.toList_inj.1
   rw [h1]
   kernel_rfl
  rw [h2]
  rfl
theorem info2q : (Tryz.prog.info? 2).map (fun i => (i.zero, i.size, i.bytes)) = some (some (.int .i64 0), 1, 8) := by kernel_rfl
theorem Fr3.trans {A P M : Nat} {w W X : World} (h : Fr3 A P M w W) (g : Fr3 A P M W X) : Fr3 A P M w X :=
 ⟨g.1.trans h.1, g.2.1.trans h.2.1, g.2.2.1.trans h.2.2.1, Nat.le_trans h.2.2.2.1 g.2.2.2.1, fun k hk h1 h2 h3 => (g.2.2.2.2 k (Nat.lt_of_lt_of_le hk h.2.2.2.1) h1 h2 h3).trans (h.2.2.2.2 k hk h1 h2 h3)⟩
end Go.Proofs.YtlohbaoigfaneaaGreat
