/-
  Words: what one becomes; what two glyphs do, by the program and by the specification.
-/
import Derived.Test.YtggcfgbpameppaaGly
namespace Go.Proofs.Ytggcfgbpameppaa
open Go.RowKit Go.Maps
set_option linter.unusedVariables false
set_option linter.unusedSimpArgs false

/-- What two glyphs do. -/
def prO (ps : List Q4) (l r : Int) : Q4 := (look2 ps l r).getD ⟨l, r, -1, 0⟩
/-- The parts of a row of codes, of which the first is being set. -/
def jn (ps : List Q4) (cc nc : Int) : List Int → List (Int × Int × Int)
  | [] => [(cc, 0, nc)]
  | x :: t => if 0 ≤ (prO ps cc x).c then jn ps (prO ps cc x).c (nc + 1) t else (cc, 0, nc) :: ((if (prO ps cc x).d = 0 then [] else [(-1, (prO ps cc x).d, 0)]) ++ jn ps x 1 t)
/-- The pieces likewise. -/
def jp (ps : List Q4) (cc : Int) : List Int → List (Int × Int)
  | [] => [(cc, 0)]
  | x :: t => if 0 ≤ (prO ps cc x).c then jp ps (prO ps cc x).c t else (cc, 0) :: ((if (prO ps cc x).d = 0 then [] else [(-1, (prO ps cc x).d)]) ++ jp ps x t)
def pc (t : Int × Int × Int) : Int × Int := (t.1, t.2.1)
theorem jn_map (ps : List Q4) : ∀ (xs : List Int) (cc nc : Int), (jn ps cc nc xs).map pc = jp ps cc xs
  | [], cc, nc => rfl
  | x :: t, cc, nc => by
    unfold jn jp
    by_cases h : 0 ≤ (prO ps cc x).c
    · rw [if_pos h, if_pos h]
      exact jn_map ps t _ _
    · rw [if_neg h, if_neg h]
      by_cases hd : (prO ps cc x).d = 0
      · rw [if_pos hd, if_pos hd]
        simp only [List.nil_append, List.map_cons, jn_map ps t]
        rfl
      · rw [if_neg hd, if_neg hd]
        simp only [List.singleton_append, List.map_cons, jn_map ps t]
        rfl
theorem jn_len (ps : List Q4) : ∀ (xs : List Int) (cc nc : Int), (jn ps cc nc xs).length ≤ 2 * xs.length + 1
  | [], cc, nc => by simp [jn]
  | x :: t, cc, nc => by
    unfold jn
    by_cases h : 0 ≤ (prO ps cc x).c
    · rw [if_pos h]
      have := jn_len ps t (prO ps cc x).c (nc + 1)
      simp only [List.length_cons]
      omega
    · rw [if_neg h]
      have := jn_len ps t x 1
      by_cases hd : (prO ps cc x).d = 0
      · rw [if_pos hd]
        simp only [List.length_cons, List.nil_append]
        omega
      · rw [if_neg hd]
        simp only [List.length_cons, List.singleton_append]
        omega
/-- The parts of a word. -/
def stL (gs ps : List Q4) (bs : List Int) : List (Int × Int × Int) := match bs.filter (hasB gs) with
  | [] => []
  | x :: t => jn ps x 1 t
/-- Its pieces. -/
def spL (gs ps : List Q4) (bs : List Int) : List (Int × Int) := match bs.filter (hasB gs) with
  | [] => []
  | x :: t => jp ps x t
theorem st_sp (gs ps : List Q4) (bs : List Int) : (stL gs ps bs).map pc = spL gs ps bs := by
  unfold stL spL
  cases bs.filter (hasB gs) with
  | nil => rfl
  | cons x t => exact jn_map ps t x 1
theorem st_len (gs ps : List Q4) (bs : List Int) : (stL gs ps bs).length ≤ 2 * bs.length := by
  unfold stL
  have h := List.length_filter_le (hasB gs) bs
  cases hf : bs.filter (hasB gs) with
  | nil => simp
  | cons x t =>
    rw [hf] at h
    simp only [List.length_cons] at h
    have := jn_len ps t x 1
    simp only
    omega

/-- Rows of bytes. -/
def BR (lo : Nat) (w : World) (cs : List Value) (x : Int) : Prop := cs = [.int .u8 x] ∧ 0 ≤ x ∧ x ≤ 255
theorem bStable : Stable BR where
  abv := by rintro lo w w' cs x h ha; exact h
  mono := by rintro lo lo' w cs x h hl; exact h
abbrev BRow (lo : Nat) (w : World) (v : Value) (xs : List Int) : Prop := SRow 1 BR 0 lo w v xs
theorem BRow.cell {lo : Nat} {w wr : World} {ao : Option Addr} {n cap k : Nat} {xs : List Int} (h : BRow lo w (.slice ao n cap) xs) (hb : Below w.heap.size w wr) (hk : k < n) : ∃ (b off : Nat), ao = some ⟨b, off, none⟩ ∧ b < wr.heap.size ∧
    wr.cell? ⟨b, off + k, none⟩ = some (.int .u8 (xs.getD k 0)) ∧ 0 ≤ xs.getD k 0 ∧ xs.getD k 0 ≤ 255 := by
  obtain ⟨ao', n', cap', e, hn, hr⟩ := h
  cases e
  obtain ⟨b, off, rfl, hlo, hlt, hc⟩ := hr (by omega)
  obtain ⟨cs, hcl, hR, hcj⟩ := hc k hk
  obtain ⟨rfl, h1, h2⟩ := hR
  have h3 := (hb.cell (p := ⟨b, off + k * 1 + 0, none⟩) hlt).trans (hcj 0 (by omega))
  simp only [Nat.mul_one, Nat.add_zero] at h3
  exact ⟨b, off, rfl, Nat.lt_of_lt_of_le hlt hb.size, h3, h1, h2⟩
theorem BRow.len {lo : Nat} {w : World} {ao : Option Addr} {n cap : Nat} {xs : List Int} (h : BRow lo w (.slice ao n cap) xs) : xs.length = n := by
  obtain ⟨ao', n', cap', e, hn, hr⟩ := h
  cases e
  exact hn

set_option maxHeartbeats 2000000 in
theorem pair_any {v : Value} {lo : Nat} {gs ps : List Q4} {l r : Int} {w : World} (h : Face w v lo gs ps) (hl : I64 l) (hr : I64 r) : Calls Try.prog 60 #[v, .int .i64 l, .int .i64 r] w fun e w' => e = .returned (q4V (prO ps l r)) ∧ Below w.heap.size w w' := by
  obtain ⟨b1, b2, rfl, h1, h2, hg, hp⟩ := h.ex
  obtain ⟨n, F, hn, hM, hF⟩ := hp
  have HM : Hid (∀ o, MapQ ((w.alloc (.cells #[.map (some b1), .map (some b2)] 72)).alloc o) 105 b2 n F) := hideP (fun o => (hM.below (below1 _ _)).below (below1 _ _))
  obtain ⟨ok, hok⟩ : ∃ t, t = (F (kS l r)).isSome := ⟨_, rfl⟩
  obtain ⟨⟨xa, xb, xc, xd⟩, hx⟩ : ∃ x, x = (F (kS l r)).getD Q4.none := ⟨_, rfl⟩
  obtain ⟨⟨oa, ob, oc, od⟩, ho⟩ : ∃ o, o = prO ps l r := ⟨_, rfl⟩
  have HO : Hid ((ok = false → (⟨oa, ob, oc, od⟩ : Q4) = ⟨l, r, -1, 0⟩) ∧ (ok = true → (⟨oa, ob, oc, od⟩ : Q4) = ⟨xa, xb, xc, xd⟩)) := hideP (by
    rw [ho, hx, hok]
    unfold prO
    rw [hF l r hl hr]
    cases look2 ps l r with
    | none => exact ⟨fun _ => rfl, fun h => by cases h⟩
    | some y => exact ⟨(fun h => by cases h), fun _ => rfl⟩)
  rw [← ho]
  have HX := hideP (And.intro hx hok)
  have HK := hideP (keyS hl hr)
  clear hM hF hn hg h h1 h2 hok hx ho hl hr
  simp only [q4V]
  cases ok with
  | false =>
    have he := HO.out.1 rfl
    simp only [Q4.mk.injEq] at he
    obtain ⟨rfl, rfl, rfl, rfl⟩ := he
    go_enter Try.func60, Try.ntmps60
    go_wp2_with (first
      | (at_lookup; refine wpList_lookup_q _ rfl _ _ 70 rfl 105 63 keyedS und70 (zero63 _) b2 n F rfl (HM.out _) _ _ rfl HK.out ?_; rw [← HX.out.1, ← HX.out.2]; simp only [q4V]))
    refine bodyPost_ret (v := .agg #[.int .i64 oa, .int .i64 ob, .int .i64 (-1), .int .i64 0]) (by simp [results, Try.results60, go_sem]) rfl ⟨rfl, ?_⟩
    have B9 := below3 w (.cells #[.map (some b1), .map (some b2)] 72) (.cells #[.int .i64 0, .int .i64 0, .int .i64 0, .int .i64 0] 63) (.cells #[.int .i64 xa, .int .i64 xb, .int .i64 xc, .int .i64 xd] 63)
    first | exact below3 _ _ _ _ | (repeat (first | with_reducible exact B9 | (with_reducible refine Below.alloc ?_ ?_ _; rotate_left; focus (simp; omega)) | (with_reducible refine Below.setCell ?_ ?_ _; rotate_left; focus (first | (simp; done) | (simp; omega)))))
  | true =>
    have he := HO.out.2 rfl
    simp only [Q4.mk.injEq] at he
    obtain ⟨rfl, rfl, rfl, rfl⟩ := he
    go_enter Try.func60, Try.ntmps60
    go_wp2_with (first
      | (at_lookup; refine wpList_lookup_q _ rfl _ _ 70 rfl 105 63 keyedS und70 (zero63 _) b2 n F rfl (HM.out _) _ _ rfl HK.out ?_; rw [← HX.out.1, ← HX.out.2]; simp only [q4V]))
    refine bodyPost_ret (v := .agg #[.int .i64 oa, .int .i64 ob, .int .i64 oc, .int .i64 od]) (by simp [results, Try.results60, go_sem]) rfl ⟨rfl, ?_⟩
    first | exact below3 _ _ _ _ | (have B9 := below3 w (.cells #[.map (some b1), .map (some b2)] 72) (.cells #[.int .i64 0, .int .i64 0, .int .i64 0, .int .i64 0] 63) (.cells #[.int .i64 oa, .int .i64 ob, .int .i64 oc, .int .i64 od] 63); repeat (first | with_reducible exact B9 | (with_reducible refine Below.alloc ?_ ?_ _; rotate_left; focus (simp; omega)) | (with_reducible refine Below.setCell ?_ ?_ _; rotate_left; focus (first | (simp; done) | (simp; omega)))))

theorem plB_lt {ps : List Q4} (h : AscP ps) : ∀ (d i : Nat), i + d + 1 < ps.length → plB (ps.getD i Q4.none) (ps.getD (i + d + 1) Q4.none) = true := by
  intro d
  induction d with
  | zero =>
    intro i hi
    exact h i (by omega)
  | succ d ih =>
    intro i hi
    have h1 := ih i (by omega)
    have h2 := h (i + d + 1) (by omega)
    simp only [plB, decide_eq_true_eq] at h1 h2 ⊢
    rw [show i + (d + 1) + 1 = i + d + 1 + 1 by omega]
    omega
theorem plB_ne {ps : List Q4} (h : AscP ps) {i j : Nat} (hij : i < j) (hj : j < ps.length) : ¬ ((ps.getD i Q4.none).a = (ps.getD j Q4.none).a ∧ (ps.getD i Q4.none).b = (ps.getD j Q4.none).b) := by
  have := plB_lt h (j - i - 1) i (by omega)
  rw [show i + (j - i - 1) + 1 = j by omega] at this
  simp only [plB, decide_eq_true_eq] at this
  omega
theorem look2_at {ps : List Q4} (h : AscP ps) {k : Nat} (hk : k < ps.length) {l r : Int} (hl : (ps.getD k Q4.none).a = l) (hr : (ps.getD k Q4.none).b = r) : look2 ps l r = some (ps.getD k Q4.none) := by
  have hmem : ps.getD k Q4.none ∈ ps := by rw [List.getD_eq_getElem?_getD, List.getElem?_eq_getElem hk]; exact List.getElem_mem _
  cases hf : look2 ps l r with
  | none =>
    unfold look2 at hf
    rw [List.find?_eq_none] at hf
    exact absurd (by simp only [decide_eq_true_eq]; exact ⟨hl, hr⟩) (hf _ (List.mem_reverse.2 hmem))
  | some x =>
    unfold look2 at hf
    have h1 := List.find?_some hf
    have h2 := List.mem_of_find?_eq_some hf
    rw [List.mem_reverse] at h2
    obtain ⟨j, hj, rfl⟩ := List.getElem_of_mem h2
    have h3 : ps.getD j Q4.none = ps[j] := by rw [List.getD_eq_getElem?_getD, List.getElem?_eq_getElem hj]; rfl
    simp only [decide_eq_true_eq] at h1
    rw [← h3] at h1 ⊢
    obtain rfl : j = k := by
      rcases Nat.lt_trichotomy j k with h4 | h4 | h4
      · exact absurd ⟨h1.1.trans hl.symm, h1.2.trans hr.symm⟩ (plB_ne h h4 hk)
      · exact h4
      · exact absurd ⟨hl.trans h1.1.symm, hr.trans h1.2.symm⟩ (plB_ne h h4 hj)
    rfl
theorem look2_none {ps : List Q4} {l r : Int} (h : ∀ k, k < ps.length → ¬ ((ps.getD k Q4.none).a = l ∧ (ps.getD k Q4.none).b = r)) : look2 ps l r = none := by
  unfold look2
  rw [List.find?_eq_none]
  intro x hx
  rw [List.mem_reverse] at hx
  obtain ⟨j, hj, rfl⟩ := List.getElem_of_mem hx
  have h3 : ps.getD j Q4.none = ps[j] := by rw [List.getD_eq_getElem?_getD, List.getElem?_eq_getElem hj]; rfl
  have := h j hj
  rw [h3] at this
  simpa using this

set_option maxRecDepth 20000 in
set_option maxHeartbeats 4000000 in
theorem specPair_any {f : Fo} {vg vp : Value} {gs ps : List Q4} {l r : Int} {w : World} (h : TwoQ w vg vp gs ps) (hp : ps.length ≤ 1048576) (ha : AscP ps) :
    Calls Try.prog 57 #[foV f vg vp, .int .i64 l, .int .i64 r] w fun e w' => e = .returned (.tuple #[q4V ((look2 ps l r).getD Q4.none), .bool (look2 ps l r).isSome]) ∧ Below w.heap.size w w' := by
  have HX := hideP h
  obtain ⟨a1, n1, c1, rfl⟩ : ∃ a n c, vg = .slice a n c := by obtain ⟨a, c, rfl⟩ := h.g.shape; exact ⟨_, _, _, rfl⟩
  obtain ⟨a2, c2, rfl⟩ := h.p.shape
  obtain ⟨n2, hn2⟩ : ∃ n, n = ps.length := ⟨_, rfl⟩
  rw [← hn2] at HX
  rw [← hn2]
  have HN := hideP hn2
  have hnb : n2 ≤ 1048576 := by omega
  have HA := hideP ha
  clear h hp ha hn2
  obtain ⟨s, g0, g1, g2, g3, g4, q, r'⟩ := f
  obtain ⟨⟨oa, ob, oc, od⟩, ho⟩ : ∃ o, o = (look2 ps l r).getD Q4.none := ⟨_, rfl⟩
  obtain ⟨ok, hok⟩ : ∃ o, o = (look2 ps l r).isSome := ⟨_, rfl⟩
  have HO := hideP (And.intro ho hok)
  rw [← ho, ← hok]
  clear ho hok
  simp only [foV, q4V]
  have W0 : Hid (∀ W, W = ((w.alloc (.cells #[Value.string s, Value.slice a1 n1 c1, Value.slice a2 n2 c2, Value.int IntKind.i64 g0, Value.int IntKind.i64 g1, Value.int IntKind.i64 g2, Value.int IntKind.i64 g3, Value.int IntKind.i64 g4, Value.int IntKind.i64 q, Value.int IntKind.i64 r'] 34)).alloc (.cells #[.int .i64 0, .int .i64 0, .int .i64 0, .int .i64 0] 63)) → Below w.heap.size w W) := hideP (fun W hW => by rw [hW]; exact below2 _ _ _)
  go_enter Try.func57, Try.ntmps57
  go_wp2
  go_loopw [8] (fun i wr => ∃ k : Nat, k ≤ n2 ∧ i = .int .i64 k ∧ wr = ((w.alloc (.cells #[Value.string s, Value.slice a1 n1 c1, Value.slice a2 n2 c2, Value.int IntKind.i64 g0, Value.int IntKind.i64 g1, Value.int IntKind.i64 g2, Value.int IntKind.i64 g3, Value.int IntKind.i64 g4, Value.int IntKind.i64 q, Value.int IntKind.i64 r'] 34)).alloc (.cells #[.int .i64 0, .int .i64 0, .int .i64 0, .int .i64 0] 63)) ∧ Hid (∀ j, j < k → ¬ ((ps.getD j Q4.none).a = l ∧ (ps.getD j Q4.none).b = r))) (fun i _ => n2 - (intOf i).toNat)
  case atStart => exact ⟨0, by omega, rfl, rfl, hideP (fun j hj => by omega)⟩
  case round =>
    obtain ⟨k, hk, rfl, hwr, HJ⟩ := hrel
    subst hwr
    by_cases hlt : k < n2
    · have hki : (k : Int) < (n2 : Int) := by omega
      obtain ⟨b, off, rfl, hb, hbw, e0, e1, e2, e3⟩ := HX.out.p.cells (W0.out _ rfl) (k := k) hlt
      obtain ⟨x, hx⟩ : ∃ x, x = ps.getD k Q4.none := ⟨_, rfl⟩
      rw [← hx] at e0 e1 e2 e3
      have HXX := hideP hx
      clear hx
      obtain ⟨xa, xb, xc, xd⟩ := x
      dsimp only at e0 e1 e2 e3
      have hne : b ≠ w.heap.size := by omega
      have hne2 : b ≠ w.heap.size + 1 := by omega
      by_cases h1 : xa = l
      · by_cases h2 : xb = r
        · have HE : Hid (look2 ps l r = some ⟨xa, xb, xc, xd⟩) := hideP (by rw [HXX.out]; exact look2_at HA.out (by rw [← HN.out]; exact hlt) (by rw [← HXX.out]; exact h1) (by rw [← HXX.out]; exact h2))
          have he : (⟨oa, ob, oc, od⟩ : Q4) = ⟨xa, xb, xc, xd⟩ := by rw [HO.out.1, HE.out]; rfl
          obtain rfl : ok = true := by rw [HO.out.2, HE.out]; rfl
          simp only [Q4.mk.injEq] at he
          obtain ⟨rfl, rfl, rfl, rfl⟩ := he
          subst h1 h2
          go_wp2
          refine bodyPost_ret (v := .tuple #[.agg #[.int .i64 oa, .int .i64 ob, .int .i64 oc, .int .i64 od], .bool true]) (by simp [results, Try.results57, go_sem]) rfl ⟨rfl, ?_⟩
          have B9 := below2 w (.cells #[Value.string s, Value.slice a1 n1 c1, Value.slice (some ⟨b, off, none⟩) n2 c2, Value.int IntKind.i64 g0, Value.int IntKind.i64 g1, Value.int IntKind.i64 g2, Value.int IntKind.i64 g3, Value.int IntKind.i64 g4, Value.int IntKind.i64 q, Value.int IntKind.i64 r'] 34) (.cells #[.int .i64 0, .int .i64 0, .int .i64 0, .int .i64 0] 63)
          first | exact below2 _ _ _ | (repeat (first | with_reducible exact B9 | (with_reducible refine Below.alloc ?_ ?_ _; rotate_left; focus (simp; omega)) | (with_reducible refine Below.setCell ?_ ?_ _; rotate_left; focus (first | (simp; done) | (simp; omega)))))
        · have h2a : (xb == r) = false := by simp [h2]
          have h2b : decide (xb = r) = false := by simp [h2]
          have HNX : Hid (¬ ((ps.getD k Q4.none).a = l ∧ (ps.getD k Q4.none).b = r)) := hideP (by rw [← HXX.out]; exact fun h => h2 h.2)
          subst h1
          go_wp2
          go_roundw
          case rel =>
            refine ⟨k + 1, by omega, by go_num, by first | trivial | rfl, hideP (fun j hj => ?_)⟩
            by_cases hjk : j = k
            · subst hjk; exact HNX.out
            · exact HJ.out j (by omega)
          case measure => simp [intOf]; omega
      · have h1a : (xa == l) = false := by simp [h1]
        have h1b : decide (xa = l) = false := by simp [h1]
        have HNX : Hid (¬ ((ps.getD k Q4.none).a = l ∧ (ps.getD k Q4.none).b = r)) := hideP (by rw [← HXX.out]; exact fun h => h1 h.1)
        go_wp2
        go_roundw
        case rel =>
          refine ⟨k + 1, by omega, by go_num, by first | trivial | rfl, hideP (fun j hj => ?_)⟩
          by_cases hjk : j = k
          · subst hjk; exact HNX.out
          · exact HJ.out j (by omega)
        case measure => simp [intOf]; omega
    · have hki : ¬ (k : Int) < (n2 : Int) := by omega
      have HE : Hid (look2 ps l r = none) := hideP (look2_none (fun j hj => HJ.out j (by have := HN.out; omega)))
      have he : (⟨oa, ob, oc, od⟩ : Q4) = ⟨0, 0, 0, 0⟩ := by rw [HO.out.1, HE.out]; rfl
      obtain rfl : ok = false := by rw [HO.out.2, HE.out]; rfl
      simp only [Q4.mk.injEq] at he
      obtain ⟨rfl, rfl, rfl, rfl⟩ := he
      go_wp2
      refine bodyPost_ret (v := .tuple #[.agg #[.int .i64 0, .int .i64 0, .int .i64 0, .int .i64 0], .bool false]) (by simp [results, Try.results57, go_sem]) rfl ⟨rfl, ?_⟩
      have B9 := below2 w (.cells #[Value.string s, Value.slice a1 n1 c1, Value.slice a2 n2 c2, Value.int IntKind.i64 g0, Value.int IntKind.i64 g1, Value.int IntKind.i64 g2, Value.int IntKind.i64 g3, Value.int IntKind.i64 g4, Value.int IntKind.i64 q, Value.int IntKind.i64 r'] 34) (.cells #[.int .i64 0, .int .i64 0, .int .i64 0, .int .i64 0] 63)
      first | exact below2 _ _ _ | (repeat (first | with_reducible exact B9 | (with_reducible refine Below.alloc ?_ ?_ _; rotate_left; focus (simp; omega)) | (with_reducible refine Below.setCell ?_ ?_ _; rotate_left; focus (first | (simp; done) | (simp; omega)))))
end Go.Proofs.Ytggcfgbpameppaa
