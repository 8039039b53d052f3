/-
  The program's parts of a word, and how large they are.
-/
import Derived.Test.YtggcfgbpameppaaJnd
namespace Go.Proofs.Ytggcfgbpameppaa
open Go.RowKit Go.Maps
set_option linter.unusedVariables false
set_option linter.unusedSimpArgs false

theorem own_lo {w : World} {base lo e size n : Nat} {v : Value} {xs : List Value} (h : w.ownsRow base e size v n xs) (hl : lo ≤ base) : w.ownsRow lo e size v n xs := by
  obtain ⟨h1, h2⟩ := h
  refine ⟨h1, ?_⟩
  rcases h2 with h3 | ⟨g, cap, cur, rfl, h4, h5⟩
  · exact Or.inl h3
  · exact Or.inr ⟨g, cap, cur, rfl, Nat.le_trans hl h4, h5⟩
theorem BRow.all {lo : Nat} {w : World} {v : Value} {xs : List Int} (h : BRow lo w v xs) : ∀ x ∈ xs, 0 ≤ x ∧ x ≤ 255 := by
  intro x hx
  obtain ⟨k, hk, rfl⟩ := List.getElem_of_mem hx
  obtain ⟨ao, n, cap, rfl, hn, hr⟩ := h
  obtain ⟨b, off, rfl, hlo, hlt, hc⟩ := hr (by omega)
  obtain ⟨cs, hcl, hR, hcj⟩ := hc k (by omega)
  have := hR.2
  rw [List.getD_eq_getElem?_getD, List.getElem?_eq_getElem hk] at this
  exact this
theorem prO_rng {lo : Nat} {w : World} {v : Value} {ps : List Q4} (h : QRow lo w v ps) (l r : Int) : I64 (prO ps l r).c ∧ I64 (prO ps l r).d := by
  unfold prO
  cases hf : look2 ps l r with
  | none => exact ⟨⟨by simp, by simp⟩, ⟨by simp, by simp⟩⟩
  | some x =>
    unfold look2 at hf
    have h2 := List.mem_of_find?_eq_some hf
    rw [List.mem_reverse] at h2
    obtain ⟨k, hk, rfl⟩ := List.getElem_of_mem h2
    have := h.rng hk
    rw [List.getD_eq_getElem?_getD, List.getElem?_eq_getElem hk] at this
    exact this.2.2

set_option maxHeartbeats 4000000 in
theorem set_any {v vb vp : Value} {lo lo2 : Nat} {gs ps : List Q4} {bs : List Int} {w : World} (hf : Face w v lo gs ps) (hq : QRow lo2 w vp ps) (h : BRow 0 w vb bs) (hl : bs.length ≤ 1000) :
    Calls Try.prog 42 #[v, vb] w fun e w' => ∃ t, e = .returned t ∧ w'.ownsRow w.heap.size 83 3 t (stL gs ps bs).length (f3 (stL gs ps bs)) ∧ Below w.heap.size w w' := by
  have HPR := hideP (fun l r => (prO_rng hq l r).1)
  have HBB : Hid (∀ x ∈ bs.filter (hasB gs), I64 x) := hideP (fun x hx => by have := h.all x (List.mem_filter.1 hx).1; exact ⟨by omega, by omega⟩)
  have hfl : (bs.filter (hasB gs)).length ≤ 1000 := Nat.le_trans (List.length_filter_le _ _) hl
  have CS : Hid (∀ W, Below w.heap.size w W → Calls Try.prog 59 #[vb, .func (.func 40) #[v] #[]] W fun e w' => ∃ u, e = .returned u ∧ w'.ownsRow W.heap.size 2 1 u (bs.filter (hasB gs)).length (fi (bs.filter (hasB gs))) ∧ Below W.heap.size W w') := hideP (fun W hW => shown_any (hf.below hW) (SRow.below bStable h hW) hl)
  have CJ : Hid (∀ W u lo, Below w.heap.size w W → W.ownsRow lo 2 1 u (bs.filter (hasB gs)).length (fi (bs.filter (hasB gs))) → Calls Try.prog 58 #[u, .func (.func 60) #[v] #[]] W fun e w' => ∃ t, e = .returned t ∧ w'.ownsRow W.heap.size 83 3 t (stL gs ps bs).length (f3 (stL gs ps bs)) ∧ Below W.heap.size W w') := hideP (fun W u lo hW hu => by
    have k := joined_any (hf.below hW) HPR.out HBB.out hu hfl
    rw [jl_st] at k
    exact k)
  obtain ⟨b1, b2, rfl, _, _, _, _⟩ := hf.ex
  obtain ⟨ab, nb, cb, rfl⟩ : ∃ a n c, vb = .slice a n c := by obtain ⟨a, c, rfl⟩ := h.shape; exact ⟨_, _, _, rfl⟩
  clear hf hq h hl HPR HBB hfl
  obtain ⟨T, hT⟩ : ∃ T, T = stL gs ps bs := ⟨_, rfl⟩
  rw [← hT] at CJ ⊢
  clear hT
  have Q : Hid (∀ x : World, Below (w.alloc (.cells #[.map (some b1), .map (some b2)] 72)).heap.size (w.alloc (.cells #[.map (some b1), .map (some b2)] 72)) x → x.cell? ⟨w.heap.size, 0, none⟩ = some (.map (some b1)) ∧ x.cell? ⟨w.heap.size, 1, none⟩ = some (.map (some b2))) := hideP (fun x hx => ⟨(hx.cell (p := ⟨w.heap.size, 0, none⟩) (by simp)).trans (by simp [go_sem]), (hx.cell (p := ⟨w.heap.size, 1, none⟩) (by simp)).trans (by simp [go_sem])⟩)
  have BD : Hid (Below (w.alloc (.cells #[.map (some b1), .map (some b2)] 72)).heap.size (w.alloc (.cells #[.map (some b1), .map (some b2)] 72)) (w.alloc (.cells #[.map (some b1), .map (some b2)] 72)).drew) := hideP (Below.refl _ _).drew
  have BW : Hid (Below w.heap.size w (w.alloc (.cells #[.map (some b1), .map (some b2)] 72))) := hideP (below1 _ _)
  go_enter Try.func42, Try.ntmps42
  go_wp2_with fail
  obtain ⟨W, hW⟩ : ∃ W, W = w.alloc (.cells #[.map (some b1), .map (some b2)] 72) := ⟨_, rfl⟩
  rw [← hW] at Q BD BW ⊢
  clear hW
  go_region_held3 (fun x => x.cell? ⟨w.heap.size, 0, none⟩ = some (.map (some b1)) ∧ x.cell? ⟨w.heap.size, 1, none⟩ = some (.map (some b2))) (first | exact Q.out _ BD.out | exact Q.out _ ‹Hid (Below W.heap.size W _)›) (first | (go_at_call 59; refine (CS.out _ (below_more BW.out BD.out BW.out.size)).mono ?_; rintro e w2 ⟨u, rfl, ho2, hb2⟩; obtain ⟨a2, c2, rfl⟩ := ownG_shape ho2; have B2 : Hid (Below W.heap.size W w2) := hideP (below_more BD.out hb2 BD.out.size); have HO2 := hideP ho2; clear ho2 hb2) | (go_at_call 58; refine (CJ.out _ _ _ (below_more BW.out B2.out BW.out.size) HO2.out).mono ?_; rintro e w3 ⟨t, rfl, ho3, hb3⟩; obtain ⟨a3, c3, rfl⟩ := ownG_shape ho3; have B3 : Hid (Below W.heap.size W w3) := hideP (below_more B2.out hb3 B2.out.size); have HO3 : Hid (w3.ownsRow w.heap.size 83 3 (.slice a3 T.length c3) T.length (f3 T)) := hideP (own_lo ho3 (Nat.le_trans BW.out.size B2.out.size)); clear ho3 hb3))
  all_goals
    go_wp2
    go_ret
    exact ⟨_, rfl, HO3.out, below_more BW.out B3.out BW.out.size⟩
end Go.Proofs.Ytggcfgbpameppaa
