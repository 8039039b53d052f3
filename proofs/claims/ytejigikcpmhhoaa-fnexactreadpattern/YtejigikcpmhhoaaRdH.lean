/-
  Proved: for every string, laws.FnExactReadPattern returns true and its argument reads behind the call as before it; no condition.
-/
import Derived.Test.YtejigikcpmhhoaaOpn
import Derived.Test.YtejigikcpmhhoaaRds
import Derived.Test.YtejigikcpmhhoaaMrk
import Derived.ChangeMaps5
namespace Go.Proofs.Ytejigikcpmhhoaa
open Go.ChangeShapes Go.WideShapes Go.ChangeAt Go.RowKit Go.Joins
open Go.ChangeMaps (open_string)
set_option linter.unusedVariables false
set_option linter.unusedSimpArgs false

theorem rdM_len (s : ByteArray) : (rdM s).length ≤ 21 := by
  cases h : readR s with
  | none => simp [rdM, h]
  | some x =>
    obtain ⟨L, M⟩ := x
    have hp : PatP L M := of_decide_eq_true (readR_pat h)
    have := hp.1
    have := hp.2.2.1
    simp [rdM, h]
    omega

theorem beq_same (s : ByteArray) (xs : List Int) : (s.toList == s.toList && decide (xs = xs)) = true := by simp

/-- What the law has in memory: two patterns that were read, and the second one's row. -/
def Pk (w1 wx : World) (P2 : Nat) (L : ByteArray) (s1 s2 : Value) (n : Nat) (zs : List Int) : Prop :=
  wx.heap[w1.heap.size]? = some (.cells #[.string L, s1] 26 (0, 0)) ∧ wx.heap[P2]? = some (.cells #[.string L, s2] 26 (0, 0)) ∧ Below w1.heap.size w1 wx ∧ wx.ownsRow (w1.heap.size + 1) 2 1 s2 n (zs.map (Value.int .i64))
theorem Pk.below {w1 wx wy : World} {P2 : Nat} {L : ByteArray} {s1 s2 : Value} {n : Nat} {zs : List Int} (h : Pk w1 wx P2 L s1 s2 n zs) (hb : Below wx.heap.size wx wy) : Pk w1 wy P2 L s1 s2 n zs :=
  ⟨(hb.block _ (Array.getElem?_eq_some_iff.1 h.1).1).trans h.1, (hb.block _ (Array.getElem?_eq_some_iff.1 h.2.1).1).trans h.2.1, below_more h.2.2.1 hb h.2.2.1.size, own_below h.2.2.2 hb⟩
theorem Pk.marked {w1 wx wy : World} {P2 : Nat} {L : ByteArray} {s1 s2 : Value} {n : Nat} {zs ys : List Int} (h : Pk w1 wx P2 L s1 s2 n zs) (ho : wy.ownsRow (w1.heap.size + 1) 2 1 s2 n (ys.map (Value.int .i64))) (hb : Below (w1.heap.size + 1) wx wy) (hk : Keep26 wx wy) : Pk w1 wy P2 L s1 s2 n ys :=
  ⟨hk _ _ h.1, hk _ _ h.2.1, h.2.2.1.trans (hb.mono (by omega)), ho⟩

set_option maxHeartbeats 4000000 in
theorem lawRead_any (s : ByteArray) (w : World) (hs9 : s.size ≤ 9223372036854775807) : Calls Try.prog 5 #[.string s] w fun e w' => e = .returned (.bool true) ∧ Below w.heap.size w w' := by
  by_cases hs : s.size ≤ 1048576
  rotate_left
  · have e1 : decide (1048576 < (s.size : Int)) = true := by simp; omega
    go_enter Try.func5, Try.ntmps5
    go_wp2
    go_ret
    exact ⟨rfl, Below.refl _ _⟩
  have e1 : decide (1048576 < (s.size : Int)) = false := by simp; omega
  obtain ⟨L, hL⟩ : ∃ L, L = rdS s := ⟨_, rfl⟩
  obtain ⟨M, hM⟩ : ∃ M, M = rdM s := ⟨_, rfl⟩
  obtain ⟨B, hB⟩ : ∃ B, B = rdB s := ⟨_, rfl⟩
  obtain ⟨n, hn⟩ : ∃ n, n = M.length := ⟨_, rfl⟩
  have hn21 : n ≤ 21 := by rw [hn, hM]; exact rdM_len s
  have CS : Hid (∀ W, Calls Try.prog 19 #[.string s] W fun e w' => ∃ v, e = .returned (.tuple #[patV L v, .bool B]) ∧ Row w' v M ∧ Below W.heap.size W w') := hideP (fun W => by rw [hL, hM, hB]; exact specRead_any s W hs9)
  have CI : Hid (∀ W, Calls Try.prog 10 #[.string s] W fun e w' => ∃ v, e = .returned (.tuple #[patV L v, .bool B]) ∧ w'.ownsRow W.heap.size 2 1 v n (M.map (Value.int .i64)) ∧ Below W.heap.size W w') := hideP (fun W => by rw [hn, hL, hM, hB]; exact implRead_any s W hs)
  have HN := hideP hn
  clear hL hM hB hn
  have bB : (B != B) = false := by cases B <;> rfl
  go_enter Try.func5, Try.ntmps5
  go_wp2_with fail
  refine (CS.out _).mono ?_
  rintro e w1 ⟨v1, rfl, hr1, hb1⟩
  obtain ⟨a1, n1, c1, rfl⟩ : ∃ a n c, v1 = .slice a n c := by obtain ⟨a, c, rfl⟩ := hr1.shape; exact ⟨_, _, _, rfl⟩
  have R1 := hideP hr1
  have B1 := hideP hb1
  clear hr1 hb1
  go_wp2_with fail
  refine (CI.out _).mono ?_
  rintro e w2 ⟨v2, rfl, ho2, hb2⟩
  obtain ⟨a2, n2, c2, rfl⟩ : ∃ a n c, v2 = .slice a n c := by obtain ⟨a, c, rfl⟩ := (row_of_own ho2 HN.out.symm).shape; exact ⟨_, _, _, rfl⟩
  have K2 : Hid (Pk w1 (w2.alloc (.cells #[.string L, .slice a2 n2 c2] 26)) w2.heap.size L (.slice a1 n1 c1) (.slice a2 n2 c2) n M) := hideP
    ⟨blockA ((hb2.block _ (by simp)).trans (heap_alloc_last w1 _)) _, heap_alloc_last _ _, ((Below.refl w1.heap.size w1).alloc (Nat.le_refl _) _ |>.trans (hb2.mono (by simp))).alloc (by have := hb2.size; simp at this; omega) _, (by simpa using ho2 : w2.ownsRow (w1.heap.size + 1) 2 1 (.slice a2 n2 c2) n (M.map (Value.int .i64))).alloc _⟩
  have q0 := (two_at K2.out.1).1
  have q1 := (two_at K2.out.1).2.1
  have qz := (two_at K2.out.1).2.2
  clear hb2 ho2
  go_wp2_with fail
  generalize hW2 : (w2.alloc (.cells #[.string L, .slice a2 n2 c2] 26)) = W2 at K2 q0 q1 qz ⊢
  clear hW2
  refine (eqPattern_any (row_of_own K2.out.2.2.2 HN.out.symm) (R1.out.below K2.out.2.2.1) (by have := HN.out; omega)).mono ?_
  rintro e w3 ⟨rfl, hb3⟩
  rw [beq_same]
  have K3 := hideP (K2.out.below hb3)
  clear hb3 K2 q0 q1 qz
  obtain ⟨p0, p1, pz⟩ := two_at K3.out.2.1
  go_wp2_with fail
  refine (markPattern_any K3.out.2.2.2 (Array.getElem?_eq_some_iff.1 K3.out.1).1 (by omega) (by omega) (by omega)).mono ?_
  rintro e w4 ⟨rfl, ho4, hb4, hk4⟩
  have K4 := hideP (K3.out.marked ho4 hb4 hk4)
  clear ho4 hb4 hk4 K3 p0 p1 pz
  obtain ⟨p0, p1, pz⟩ := two_at K4.out.2.1
  go_wp2_with fail
  refine (heldPattern_any (row_of_own K4.out.2.2.2 (ups_length _ _)) (by omega) (by omega) (by omega)).mono ?_
  rintro e w5 ⟨rfl, hb5⟩
  have K5 := hideP (K4.out.below hb5)
  clear hb5 K4 p0 p1 pz
  have m0 : ¬ ((1 : Int) + (n : Int) < 0) := by omega
  go_wp2_with fail
  refine (CI.out _).mono ?_
  rintro e w6 ⟨v6, rfl, ho6, hb6⟩
  obtain ⟨a6, n6, c6, rfl⟩ : ∃ a n c, v6 = .slice a n c := by obtain ⟨a, c, rfl⟩ := (row_of_own ho6 HN.out.symm).shape; exact ⟨_, _, _, rfl⟩
  have K6 := hideP ((K5.out.below hb6).below (below1 w6 (.cells #[.string L, .slice a6 n6 c6] 26)))
  have R6 := hideP ((row_of_own ho6 HN.out.symm).below (below1 w6 (.cells #[.string L, .slice a6 n6 c6] 26)))
  clear ho6 hb6 K5
  have q0 := (two_at K6.out.1).1
  have q1 := (two_at K6.out.1).2.1
  have qz := (two_at K6.out.1).2.2
  go_wp2_with fail
  generalize (w6.alloc (.cells #[.string L, .slice a6 n6 c6] 26)) = W6 at K6 R6 q0 q1 qz ⊢
  refine (eqPattern_any R6.out (R1.out.below K6.out.2.2.1) (by have := HN.out; omega)).mono ?_
  rintro e w7 ⟨rfl, hb7⟩
  rw [beq_same]
  have K7 := hideP (K6.out.below hb7)
  clear hb7 K6 q0 q1 qz
  obtain ⟨p0, p1, pz⟩ := two_at K7.out.2.1
  go_wp2_with fail
  refine (heldPattern_any (row_of_own K7.out.2.2.2 (ups_length _ _)) (by omega) (by omega) (by omega)).mono ?_
  rintro e w8 ⟨rfl, hb8⟩
  have K8 := hideP (K7.out.below hb8)
  clear hb8 K7 p0 p1 pz
  go_wp2
  go_ret
  exact ⟨rfl, below_more B1.out (K8.out.2.2.1) B1.out.size⟩

set_option maxRecDepth 100000 in
theorem readPattern_lifted (os : Os) (started : os.Started) (H : Type) (enc : TypeId × Value → H) :
    ReturnsInHanded {} Try.checked os 5 .any (Rows.fnExactReadPatternSpec.pre6 enc Try.prog Try.f5 Rows.fnExactReadPatternRow.domain false) (Rows.fnExactReadPatternSpec.post enc Try.prog Try.f5 false true false false) := by
  refine returnsInHanded_of_change (C := Try.checked) ownT started (by kernel_rfl) Try.func5
    (ChangeSpec.witness6 (enc := enc) (C := Try.checked) false ⟨#[], #[.string ByteArray.empty], []⟩ 8 (by kernel_rfl) (by kernel_rfl) (by kernel_rfl) (by kernel_rfl)) ?_
  intro W base args ds gs before hval0 hW hcnd _
  have hval : ∀ (j : Nat) t v, Try.f5.params[j]? = some t → args[j]? = some v → Value.okWide Try.prog W .any base t v := hval0
  have hW' := hW
  obtain ⟨p, q, hA0, hV, rfl, hfz, hnd⟩ := hW
  have hA : DataW.TrodAll enc Try.prog W 0 (fun _ => true) true Try.f5.params.toList args.toList ds p := hA0
  rw [Try.params5] at hA hval
  obtain ⟨v0, vs0, d0, ds0, p0, q0, hargs, rfl, rfl, h0, r0⟩ := trodAll_cons hA
  obtain ⟨rfl, rfl, rfl⟩ := trodAll_nil r0
  obtain rfl : args = #[v0] := by cases args; simp_all
  obtain ⟨rfl, rfl⟩ := trodVars_none hV
  have k0 := h0
  have lt0 : ∀ x ∈ p0, x.block < W.heap.size := by obtain ⟨m, hm⟩ := k0; exact DataW.trod_lt m _ _ _ hm
  obtain ⟨s, rfl, rfl, rfl, hs⟩ := open_string Try.underlying9 (hval 0 9 v0 rfl rfl) h0
  clear hA0 hval0
  refine (lawRead_any s W (by first | exact hs | (unfold maxLen at hs; exact hs))).mono fun e W' ⟨he, bel⟩ => ?_
  subst he
  exact ⟨_, rfl, _, _, _, [], _, [], hW', trodAll_mk1 (shut_bool Try.underlying4 _), (trodAll_cons_mk (Below.trod laidOut (by kernel_rfl) (of_decide_eq_true (by kernel_rfl)) k0 bel lt0) trodAll_mk0), rfl, bel.frame _, fun h => by cases h⟩

theorem readPattern_holds : Rows.FnExactReadPatternSaid :=
  OpenClaim.holds_of_wide 5 Try.f5 rfl rfl rfl rfl rfl rfl rfl ⟨rfl, rfl, rfl, rfl, rfl⟩ rfl rfl rfl rfl rfl (by kernel_rfl) Try.func5 (by kernel_rfl)
    (of_decide_eq_true (by kernel_rfl)) (by unfold Func.isWrapper; first | (rw [if_pos (by decide +kernel)]; kernel_rfl) | (rw [if_neg (by decide +kernel)]; exact ⟨rfl, rfl⟩))
    (fun os started H enc _ => readPattern_lifted os started H enc)
#print axioms readPattern_holds
end Go.Proofs.Ytejigikcpmhhoaa
