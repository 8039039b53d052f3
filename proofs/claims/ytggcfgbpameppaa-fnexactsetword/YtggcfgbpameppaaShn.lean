/-
  The program's codes of a word, and their parts.
-/
import Derived.Test.YtggcfgbpameppaaWrd
import Derived.OwnWalk
import Derived.Maps.AppendAt
namespace Go.Proofs.Ytggcfgbpameppaa
open Go.RowKit Go.Maps
set_option linter.unusedVariables false
set_option linter.unusedSimpArgs false

/-- Numbers in their cells. -/
def fi (zs : List Int) : List Value := zs.map (Value.int .i64)
theorem Try.info2 : (Try.prog.info? 2).map (fun i => (i.zero, i.size, i.bytes)) = some (some (.int .i64 0), 1, 8) := by kernel_rfl
theorem Try.info83 : (Try.prog.info? 83).map (fun i => (i.zero, i.size, i.bytes)) = some (some (.agg #[.int .i64 0, .int .i64 0, .int .i64 0]), 3, 24) := by kernel_rfl
theorem ownG_shape {w : World} {base e size n : Nat} {v : Value} {xs : List Value} (h : w.ownsRow base e size v n xs) : ∃ a c, v = .slice a n c := by
  rcases h.2 with ⟨rfl, rfl⟩ | ⟨g, cap, cur, rfl, _⟩
  · exact ⟨_, _, rfl⟩
  · exact ⟨_, _, rfl⟩

theorem own_same {w w' : World} {base e size n : Nat} {v : Value} {xs : List Value} (h : w.ownsRow base e size v n xs) (hs : ∀ g, v.ownBlock = some g → w'.heap[g]? = w.heap[g]?) : w'.ownsRow base e size v n xs := by
  obtain ⟨hl, hr⟩ := h
  refine ⟨hl, ?_⟩
  rcases hr with h1 | ⟨g, cap, cur, rfl, h2, h3, h4⟩
  · exact Or.inl h1
  · exact Or.inr ⟨g, cap, cur, rfl, h2, (hs g rfl).trans h3, h4⟩
theorem own_below {w w' : World} {base e size n : Nat} {v : Value} {xs : List Value} (h : w.ownsRow base e size v n xs) (hb : Below w.heap.size w w') : w'.ownsRow base e size v n xs := own_same h (fun g hg => hb.block _ (h.lt g hg).2)

theorem filter_snoc {gs : List Q4} {bs : List Int} {k : Nat} (h : k < bs.length) : (bs.take (k + 1)).filter (hasB gs) = (bs.take k).filter (hasB gs) ++ (if hasB gs (bs.getD k 0) then [bs.getD k 0] else []) := by
  rw [List.take_add_one, List.getElem?_eq_getElem h, List.filter_append]
  have e : bs.getD k 0 = bs[k] := by rw [List.getD_eq_getElem?_getD, List.getElem?_eq_getElem h]; rfl
  rw [e]
  cases hb : hasB gs bs[k] <;> simp [hb]

set_option maxRecDepth 20000 in
set_option maxHeartbeats 4000000 in
theorem shown_any {v vb : Value} {lo : Nat} {gs ps : List Q4} {bs : List Int} {w : World} (hf : Face w v lo gs ps) (h : BRow 0 w vb bs) (hl : bs.length ≤ 1000) : Calls Try.prog 59 #[vb, .func (.func 40) #[v] #[]] w fun e w' => ∃ u, e = .returned u ∧ w'.ownsRow w.heap.size 2 1 u (bs.filter (hasB gs)).length (fi (bs.filter (hasB gs))) ∧ Below w.heap.size w w' := by
  have HFC := hideP hf
  have HR := hideP h
  obtain ⟨ao, cap, rfl⟩ := h.shape
  obtain ⟨n, hn⟩ : ∃ n, n = bs.length := ⟨_, rfl⟩
  rw [← hn] at HR
  rw [← hn]
  have HN := hideP hn
  have hnl : n ≤ 1000 := by omega
  clear h hn hl hf
  obtain ⟨i0, hi, hz0, hz1, hz2⟩ := info_parts Try.info2
  have HI : Hid (i0.bytes = 8) := hideP hz2
  go_enter Try.func59, Try.ntmps59
  go_wp2_with (first
    | (refine wpList_make_own _ rfl _ _ 98 rfl w.heap.size 2 i0 (.int .i64 0) 1 Try.underlying98 hi hz0 hz1 _ _ _ n rfl rfl rfl (by rw [HI.out]; omega) (by unfold maxLen; omega) (Nat.le_refl _) ?_; intro w1 hown hgrow))
  have W1 : Hid (w1.ownsRow w.heap.size 2 1 (.slice (some ⟨w.heap.size, 0, none⟩) 0 n) 0 [] ∧ Below w.heap.size w w1) := hideP ⟨hown, Below.grown (Below.refl _ _) hgrow (Nat.le_refl _) (by simp)⟩
  clear hown hgrow
  go_wp2
  go_loopw [5, 13] (fun u i wr => ∃ k : Nat, k ≤ n ∧ i = .int .i64 k ∧ Hid (wr.ownsRow w.heap.size 2 1 u ((bs.take k).filter (hasB gs)).length (fi ((bs.take k).filter (hasB gs))) ∧ Below w.heap.size w wr)) (fun _ i _ => n - (intOf i).toNat)
  case atStart => exact ⟨0, by omega, rfl, W1⟩
  case round =>
    obtain ⟨k, hk, rfl, HW⟩ := hrel
    clear W1
    obtain ⟨au, cu, rfl⟩ := ownG_shape HW.out.1
    by_cases hlt : k < n
    · have hki : (k : Int) < (n : Int) := by omega
      obtain ⟨b, off, rfl, hb, e0, hx0, hx1⟩ := HR.out.cell HW.out.2 hlt
      have HFS := hideP (filter_snoc (gs := gs) (bs := bs) (k := k) (by rw [← HN.out]; exact hlt))
      have hfl : ((bs.take k).filter (hasB gs)).length ≤ k := by
        have h1 := List.length_filter_le (hasB gs) (bs.take k)
        rw [List.length_take] at h1
        omega
      obtain ⟨x, hx⟩ : ∃ x, x = bs.getD k 0 := ⟨_, rfl⟩
      rw [← hx] at e0 hx0 hx1 HFS
      clear hx
      obtain ⟨hb0, hhb⟩ : ∃ t, t = hasB gs x := ⟨_, rfl⟩
      have CH : Hid (Calls Try.prog 40 #[v, .int .i64 x] wr fun e w' => e = .returned (.bool hb0) ∧ Below wr.heap.size wr w') := hideP (by rw [hhb]; exact has_any (HFC.out.below HW.out.2) ⟨by omega, by omega⟩)
      rw [← hhb] at HFS
      clear hhb
      obtain ⟨fl, hfl0⟩ : ∃ m, m = ((bs.take k).filter (hasB gs)).length := ⟨_, rfl⟩
      rw [← hfl0] at hfl HW
      rw [← hfl0]
      have HFL := hideP hfl0
      clear hfl0
      go_wp2_with fail
      refine CH.out.mono ?_
      rintro e w2 ⟨rfl, hb2⟩
      have W2 : Hid (w2.ownsRow w.heap.size 2 1 (.slice au fl cu) fl (fi ((bs.take k).filter (hasB gs))) ∧ Below w.heap.size w w2) := hideP ⟨own_below HW.out.1 hb2, below_more HW.out.2 hb2 HW.out.2.size⟩
      have hszw : w.heap.size ≤ w2.heap.size := W2.out.2.size
      clear hb2
      cases hb0 with
      | false =>
        go_wp2
        go_roundw
        case rel => exact ⟨k + 1, by omega, by go_num, hideP (by rw [HFS.out]; simp only [Bool.false_eq_true, if_false, List.append_nil]; rw [← HFL.out]; exact W2.out)⟩
        case measure => simp [intOf]; omega
      | true =>
        go_wp2_with (at_builtin; refine wpList_append_own_at _ rfl _ _ 98 rfl w.heap.size 2 i0 (.int .i64 0) 1 8 Try.underlying98 hi hz0 hz1 hz2 rfl (by decide) _ fl _ rfl (W2.out.1.alloc _) ⟨w2.heap.size, 0, none⟩ 1 1 [.int .i64 x] rfl rfl (cell_one_new _ _ _) (by intro u hu; simp at hu; subst hu; rfl) (by unfold maxLen; omega) (by omega) (by simp; omega) ?_; intro v6 w6 ho6 hg6 hn6 hat6)
        obtain ⟨a6, c6, rfl⟩ := ownG_shape ho6
        have W6 : Hid (w6.ownsRow w.heap.size 2 1 (.slice a6 (fl + 1) c6) (fl + 1) (fi ((bs.take k).filter (hasB gs)) ++ [.int .i64 x]) ∧ Below w.heap.size w w6) := hideP ⟨ho6, Below.grown (W2.out.2.alloc hszw _) hg6 (by simp; omega) (fun j hj => (W2.out.1.lt j hj).1)⟩
        clear ho6 hg6 hn6 hat6
        go_wp2
        go_roundw
        case rel => exact ⟨k + 1, by omega, by go_num, hideP (by
          rw [HFS.out]
          simp only [if_true, List.length_append, List.length_singleton, fi, List.map_append, List.map_cons, List.map_nil]
          rw [← HFL.out]
          exact W6.out)⟩
        case measure => simp [intOf]; omega
    · have hki : ¬ (k : Int) < (n : Int) := by omega
      have HK : Hid (bs.take k = bs) := hideP (by rw [List.take_of_length_le]; rw [← HN.out]; omega)
      rw [HK.out] at HW
      rw [HK.out]
      go_wp2
      go_ret
      exact ⟨_, rfl, HW.out⟩
end Go.Proofs.Ytggcfgbpameppaa
