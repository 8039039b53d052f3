/-
  The face of a font: its glyphs and its pairs in maps.
-/
import Derived.Test.YtggcfgbpameppaaMap
namespace Go.Proofs.Ytggcfgbpameppaa
open Go.RowKit Go.Maps
set_option linter.unusedVariables false
set_option linter.unusedSimpArgs false

def look1 (xs : List Q4) (c : Int) : Option Q4 := xs.reverse.find? (fun x => decide (x.a = c))
def look2 (xs : List Q4) (l r : Int) : Option Q4 := xs.reverse.find? (fun x => decide (x.a = l ∧ x.b = r))
theorem look1_snoc (xs : List Q4) (x : Q4) (c : Int) : look1 (xs ++ [x]) c = if x.a = c then some x else look1 xs c := by
  unfold look1
  rw [List.reverse_append, List.reverse_singleton, List.singleton_append, List.find?_cons]
  by_cases h : x.a = c <;> simp [h]
theorem look2_snoc (xs : List Q4) (x : Q4) (l r : Int) : look2 (xs ++ [x]) l r = if x.a = l ∧ x.b = r then some x else look2 xs l r := by
  unfold look2
  rw [List.reverse_append, List.reverse_singleton, List.singleton_append, List.find?_cons]
  by_cases h : x.a = l ∧ x.b = r <;> simp [h]
theorem take_snoc {xs : List Q4} {k : Nat} (h : k < xs.length) : xs.take (k + 1) = xs.take k ++ [xs.getD k Q4.none] := by
  rw [List.take_add_one, List.getElem?_eq_getElem h, List.getD_eq_getElem?_getD, List.getElem?_eq_getElem h]
  rfl

def GMap (w : World) (b : Nat) (xs : List Q4) : Prop := ∃ n F, n ≤ xs.length ∧ MapQ w 2 b n F ∧ ∀ c, I64 c → F (.int .i64 c) = look1 xs c
def PMap (w : World) (b : Nat) (xs : List Q4) : Prop := ∃ n F, n ≤ xs.length ∧ MapQ w 105 b n F ∧ ∀ l r, I64 l → I64 r → F (kS l r) = look2 xs l r
theorem GMap.same {w w' : World} {b : Nat} {xs : List Q4} (h : GMap w b xs) (e : w'.heap[b]? = w.heap[b]?) : GMap w' b xs := by
  obtain ⟨n, F, h1, h2, h3⟩ := h
  exact ⟨n, F, h1, h2.same e, h3⟩
theorem PMap.same {w w' : World} {b : Nat} {xs : List Q4} (h : PMap w b xs) (e : w'.heap[b]? = w.heap[b]?) : PMap w' b xs := by
  obtain ⟨n, F, h1, h2, h3⟩ := h
  exact ⟨n, F, h1, h2.same e, h3⟩
theorem GMap.lt {w : World} {b : Nat} {xs : List Q4} (h : GMap w b xs) : b < w.heap.size := by
  obtain ⟨n, F, h1, h2, h3⟩ := h
  exact h2.lt
theorem PMap.lt {w : World} {b : Nat} {xs : List Q4} (h : PMap w b xs) : b < w.heap.size := by
  obtain ⟨n, F, h1, h2, h3⟩ := h
  exact h2.lt

open Classical in
theorem GMap.put {w' : World} {b n : Nat} {F : Lit → Option Q4} {xs : List Q4} {y : Q4} (hn : n ≤ xs.length) (hF : ∀ c, I64 c → F (.int .i64 c) = look1 xs c) (h : MapQ w' 2 b (n + 1) (fun l => if l = .int .i64 y.a then some y else F l)) : GMap w' b (xs ++ [y]) := by
  refine ⟨n + 1, _, by simp; omega, h, fun c hc => ?_⟩
  rw [look1_snoc]
  by_cases hy : y.a = c
  · simp [hy]
  · have : ¬ (Lit.int .i64 c = Lit.int .i64 y.a) := by simp; exact fun e => hy e.symm
    simp only [if_neg this, if_neg hy]
    exact hF c hc
open Classical in
theorem PMap.put {w' : World} {b n : Nat} {F : Lit → Option Q4} {xs : List Q4} {y : Q4} (ha : I64 y.a) (hb : I64 y.b) (hn : n ≤ xs.length) (hF : ∀ l r, I64 l → I64 r → F (kS l r) = look2 xs l r) (h : MapQ w' 105 b (n + 1) (fun l => if l = kS y.a y.b then some y else F l)) : PMap w' b (xs ++ [y]) := by
  refine ⟨n + 1, _, by simp; omega, h, fun l r hl hr => ?_⟩
  rw [look2_snoc]
  by_cases hy : y.a = l ∧ y.b = r
  · obtain ⟨rfl, rfl⟩ := hy
    simp
  · have : ¬ (kS l r = kS y.a y.b) := fun e => hy (by obtain ⟨h1, h2⟩ := kS_inj hl hr ha hb e; exact ⟨h1.symm, h2.symm⟩)
    simp only [if_neg this, if_neg hy]
    exact hF l r hl hr

/-- What stands while a face is filled: the font, the answer's block, the face, both maps. -/
structure FInv (w wr : World) (cs : Array Value) (xs ys : List Q4) : Prop where
  box : wr.heap[w.heap.size]? = some (.cells cs 34 (0, 0))
  res : wr.heap[w.heap.size + 1]? = some (.cells #[.map none, .map none] 72 (0, 0))
  var : wr.heap[w.heap.size + 1 + 1 + 1 + 1]? = some (.cells #[.map (some (w.heap.size + 1 + 1)), .map (some (w.heap.size + 1 + 1 + 1))] 72 (0, 0))
  bel : Below w.heap.size w wr
  m1 : GMap wr (w.heap.size + 1 + 1) xs
  m2 : PMap wr (w.heap.size + 1 + 1 + 1) ys
theorem FInv.size {w wr : World} {cs : Array Value} {xs ys : List Q4} (h : FInv w wr cs xs ys) : w.heap.size + 1 + 1 + 1 + 1 < wr.heap.size := (Array.getElem?_eq_some_iff.1 h.var).1
theorem FInv.below {w wr w' : World} {cs : Array Value} {xs ys : List Q4} (h : FInv w wr cs xs ys) (hb : Below wr.heap.size wr w') : FInv w w' cs xs ys := by
  have hz := h.size
  exact ⟨(hb.block _ (by omega)).trans h.box, (hb.block _ (by omega)).trans h.res, (hb.block _ hz).trans h.var, below_more h.bel hb h.bel.size, h.m1.same (hb.block _ (by omega)), h.m2.same (hb.block _ (by omega))⟩
theorem FInv.put1 {w wr w' : World} {cs : Array Value} {xs xs' ys : List Q4} (h : FInv w wr cs xs ys) (hg : wr.grownBy w' (some (w.heap.size + 1 + 1))) (hm : GMap w' (w.heap.size + 1 + 1) xs') : FInv w w' cs xs' ys := by
  have hz := h.size
  exact ⟨(hg.block _ (by omega) (by intro e; simp only [Option.some.injEq] at e; omega)).trans h.box, (hg.block _ (by omega) (by intro e; simp only [Option.some.injEq] at e; omega)).trans h.res, (hg.block _ hz (by intro e; simp only [Option.some.injEq] at e; omega)).trans h.var, h.bel.grown hg h.bel.size (fun j hj => by cases hj; omega), hm, h.m2.same (hg.block _ (by omega) (by intro e; simp only [Option.some.injEq] at e; omega))⟩
theorem FInv.put2 {w wr w' : World} {cs : Array Value} {xs ys ys' : List Q4} (h : FInv w wr cs xs ys) (hg : wr.grownBy w' (some (w.heap.size + 1 + 1 + 1))) (hm : PMap w' (w.heap.size + 1 + 1 + 1) ys') : FInv w w' cs xs ys' := by
  have hz := h.size
  exact ⟨(hg.block _ (by omega) (by intro e; simp only [Option.some.injEq] at e; omega)).trans h.box, (hg.block _ (by omega) (by intro e; simp only [Option.some.injEq] at e; omega)).trans h.res, (hg.block _ hz (by intro e; simp only [Option.some.injEq] at e; omega)).trans h.var, h.bel.grown hg h.bel.size (fun j hj => by cases hj; omega), h.m1.same (hg.block _ (by omega) (by intro e; simp only [Option.some.injEq] at e; omega)), hm⟩
theorem FInv.at {w wr : World} {vs vg vp a b c d e q r : Value} {xs ys : List Q4} (h : FInv w wr #[vs, vg, vp, a, b, c, d, e, q, r] xs ys) : wr.cell? ⟨w.heap.size, 1, none⟩ = some vg ∧ wr.cell? ⟨w.heap.size, 2, none⟩ = some vp ∧ wr.cell? ⟨w.heap.size + 1 + 1 + 1 + 1, 0, none⟩ = some (.map (some (w.heap.size + 1 + 1))) ∧ wr.cell? ⟨w.heap.size + 1 + 1 + 1 + 1, 1, none⟩ = some (.map (some (w.heap.size + 1 + 1 + 1))) ∧ wr.cell? ⟨w.heap.size + 1, 0, none⟩ = some (.map none) ∧ wr.cell? ⟨w.heap.size + 1, 1, none⟩ = some (.map none) ∧ wr.frozen? ⟨w.heap.size + 1, 0, none⟩ = false ∧ wr.frozen? ⟨w.heap.size + 1, 1, none⟩ = false :=
  ⟨by rw [cell_of_row _ _ _ _ _ _ h.box]; rfl, by rw [cell_of_row _ _ _ _ _ _ h.box]; rfl, by rw [cell_of_row _ _ _ _ _ _ h.var]; rfl, by rw [cell_of_row _ _ _ _ _ _ h.var]; rfl, by rw [cell_of_row _ _ _ _ _ _ h.res]; rfl, by rw [cell_of_row _ _ _ _ _ _ h.res]; rfl, frozen_of_row _ _ _ _ _ h.res, frozen_of_row _ _ _ _ _ h.res⟩

/-- A face in a world. -/
structure Face (w : World) (v : Value) (lo : Nat) (gs ps : List Q4) : Prop where
  ex : ∃ b1 b2, v = .agg #[.map (some b1), .map (some b2)] ∧ lo ≤ b1 ∧ lo ≤ b2 ∧ GMap w b1 gs ∧ PMap w b2 ps
theorem Face.below {w w' : World} {v : Value} {lo : Nat} {gs ps : List Q4} (h : Face w v lo gs ps) (hb : Below w.heap.size w w') : Face w' v lo gs ps := by
  obtain ⟨b1, b2, h1, h2, h3, h4, h5⟩ := h.ex
  exact ⟨b1, b2, h1, h2, h3, h4.same (hb.block _ h4.lt), h5.same (hb.block _ h5.lt)⟩

theorem below4 (w : World) (o o2 o3 o4 : Obj) : Below w.heap.size w ((((w.alloc o).alloc o2).alloc o3).alloc o4) := (below3 w o o2 o3).alloc (by simp; omega) _
theorem GMap.nil (w : World) : GMap (w.alloc (.map #[] 0)) w.heap.size [] := ⟨0, _, by simp, MapQ.made w 2, fun c hc => rfl⟩
theorem PMap.nil (w : World) : PMap (w.alloc (.map #[] 0)) w.heap.size [] := ⟨0, _, by simp, MapQ.made w 105, fun l r hl hr => rfl⟩
theorem len_lt {n k : Nat} {xs : List Q4} (h : n ≤ (xs.take k).length) (hk : k ≤ 1048576) : n < maxLen := by
  rw [List.length_take] at h
  unfold maxLen
  omega
theorem FInv.start (w : World) (cs : Array Value) : FInv w (((((w.alloc (.cells cs 34)).alloc (.cells #[.map none, .map none] 72)).alloc (.map #[] 0)).alloc (.map #[] 0)).alloc (.cells #[.map (some (w.heap.size + 1 + 1)), .map (some (w.heap.size + 1 + 1 + 1))] 72)) cs [] [] := by
  obtain ⟨W1, h1⟩ : ∃ W, W = w.alloc (.cells cs 34) := ⟨_, rfl⟩
  obtain ⟨W2, h2⟩ : ∃ W, W = W1.alloc (.cells #[.map none, .map none] 72) := ⟨_, rfl⟩
  obtain ⟨W3, h3⟩ : ∃ W, W = W2.alloc (.map #[] 0) := ⟨_, rfl⟩
  obtain ⟨W4, h4⟩ : ∃ W, W = W3.alloc (.map #[] 0) := ⟨_, rfl⟩
  rw [← h1, ← h2, ← h3, ← h4]
  have s1 : W1.heap.size = w.heap.size + 1 := by rw [h1]; simp
  have s2 : W2.heap.size = w.heap.size + 1 + 1 := by rw [h2]; simp [s1]
  have s3 : W3.heap.size = w.heap.size + 1 + 1 + 1 := by rw [h3]; simp [s2]
  have s4 : W4.heap.size = w.heap.size + 1 + 1 + 1 + 1 := by rw [h4]; simp [s3]
  have b0 : Below w.heap.size w W1 := by rw [h1]; exact below1 _ _
  have b1 : Below W1.heap.size W1 W2 := by rw [h2]; exact below1 _ _
  have b2 : Below W2.heap.size W2 W3 := by rw [h3]; exact below1 _ _
  have b3 : Below W3.heap.size W3 W4 := by rw [h4]; exact below1 _ _
  have b4 := below1 W4 (.cells #[.map (some (w.heap.size + 1 + 1)), .map (some (w.heap.size + 1 + 1 + 1))] 72)
  have b34 := below_more b3 b4 b3.size
  have b24 := below_more b2 b34 b2.size
  have b14 := below_more b1 b24 b1.size
  refine ⟨?_, ?_, ?_, below_more b0 b14 b0.size, ?_, ?_⟩
  · exact (b14.block _ (by omega)).trans (by rw [h1]; exact heap_alloc_new w _)
  · exact (b24.block _ (by omega)).trans (by rw [h2, ← s1]; exact heap_alloc_new W1 _)
  · rw [← s4]; exact heap_alloc_new W4 _
  · have h := GMap.nil W2
    rw [← h3, s2] at h
    exact h.same (b34.block _ (by omega))
  · have h := PMap.nil W3
    rw [← h4, s3] at h
    exact h.same (b4.block _ (by omega))

set_option maxRecDepth 20000 in
set_option maxHeartbeats 8000000 in
theorem faceOf_any {f : Fo} {vg vp : Value} {gs ps : List Q4} {w : World} (h : TwoQ w vg vp gs ps) (hg : gs.length ≤ 1048576) (hp : ps.length ≤ 1048576) :
    Calls Try.prog 52 #[foV f vg vp] w fun e w' => ∃ v, e = .returned v ∧ Face w' v w.heap.size gs ps ∧ Below w.heap.size w w' := by
  have HX := hideP h
  obtain ⟨a1, c1, rfl⟩ := h.g.shape
  obtain ⟨a2, c2, rfl⟩ := h.p.shape
  obtain ⟨n1, hn1⟩ : ∃ n, n = gs.length := ⟨_, rfl⟩
  obtain ⟨n2, hn2⟩ : ∃ n, n = ps.length := ⟨_, rfl⟩
  rw [← hn1, ← hn2] at HX
  rw [← hn1, ← hn2]
  have HN := hideP (And.intro hn1 hn2)
  have hb1 : n1 ≤ 1048576 := by omega
  have hb2 : n2 ≤ 1048576 := by omega
  clear h hg hp hn1 hn2
  obtain ⟨s, g0, g1, g2, g3, g4, q, r⟩ := f
  simp only [foV]
  have hmm := @run_makeMap Try.prog
  go_enter Try.func52, Try.ntmps52
  go_wp2
  have F0 := hideP (FInv.start w #[Value.string s, Value.slice a1 n1 c1, Value.slice a2 n2 c2, Value.int IntKind.i64 g0, Value.int IntKind.i64 g1, Value.int IntKind.i64 g2, Value.int IntKind.i64 g3, Value.int IntKind.i64 g4, Value.int IntKind.i64 q, Value.int IntKind.i64 r])
  go_loopw [14] (fun i wr => ∃ k : Nat, k ≤ n1 ∧ i = .int .i64 k ∧ Hid (FInv w wr #[Value.string s, Value.slice a1 n1 c1, Value.slice a2 n2 c2, Value.int IntKind.i64 g0, Value.int IntKind.i64 g1, Value.int IntKind.i64 g2, Value.int IntKind.i64 g3, Value.int IntKind.i64 g4, Value.int IntKind.i64 q, Value.int IntKind.i64 r] (gs.take k) [])) (fun i _ => n1 - (intOf i).toNat)
  case atStart => exact ⟨0, by omega, rfl, F0⟩
  case round =>
    obtain ⟨k, hk, rfl, HF⟩ := hrel
    clear F0
    obtain ⟨p1, p2, p3, p4, p5, p6, p7, p8⟩ := HF.out.at
    have hzv := HF.out.size
    by_cases hlt : k < n1
    · have hki : (k : Int) < (n1 : Int) := by omega
      obtain ⟨b, off, rfl, hb, _, e0, e1, e2, e3⟩ := HX.out.g.cells HF.out.bel hlt
      have HG := hideP (HX.out.g.rng (k := k) (by rw [← HN.out.1]; exact hlt))
      have HTK := hideP (take_snoc (xs := gs) (k := k) (by rw [← HN.out.1]; exact hlt))
      obtain ⟨t, ht⟩ : ∃ t, t = gs.getD k Q4.none := ⟨_, rfl⟩
      rw [← ht] at e0 e1 e2 e3 HG HTK
      clear ht
      obtain ⟨ta, tb, tc, td⟩ := t
      dsimp only at e0 e1 e2 e3
      obtain ⟨n, F, hn, hM, hF⟩ := HF.out.m1
      have HM : Hid (∀ o, MapQ (wr.alloc o) 2 (w.heap.size + 1 + 1) n F) := hideP (fun o => hM.below (below1 _ _))
      have HFF := hideP (And.intro hn hF)
      have HNL : Hid (n < maxLen) := hideP (len_lt hn (by omega))
      clear hn hM hF
      go_wp2_with (first
        | (at_mapUpdate; refine wpList_mapUpdate_q _ rfl _ _ _ 69 rfl 2 39 keyedI und69 (w.heap.size + 1 + 1) n F rfl (HM.out _) HNL.out _ ⟨ta, tb, tc, td⟩ _ rfl rfl (keyI HG.out.1) ?_; intro w1 hm1 hg1))
      have HF2 := hideP ((HF.out.below (below1 wr (.cells #[.int .i64 ta, .int .i64 tb, .int .i64 tc, .int .i64 td] 39))).put1 hg1 (GMap.put (y := ⟨ta, tb, tc, td⟩) HFF.out.1 HFF.out.2 hm1))
      clear hm1 hg1
      go_wp2
      go_roundw
      case rel => exact ⟨k + 1, by omega, by go_num, hideP (by rw [HTK.out]; exact HF2.out)⟩
      case measure => simp [intOf]; omega
    · have hki : ¬ (k : Int) < (n1 : Int) := by omega
      have HK : Hid (gs.take k = gs) := hideP (by rw [List.take_of_length_le]; rw [← HN.out.1]; omega)
      rw [HK.out] at HF
      clear HK
      go_wp2
      go_loopw [27] (fun i wq => ∃ k : Nat, k ≤ n2 ∧ i = .int .i64 k ∧ Hid (FInv w wq #[Value.string s, Value.slice a1 n1 c1, Value.slice a2 n2 c2, Value.int IntKind.i64 g0, Value.int IntKind.i64 g1, Value.int IntKind.i64 g2, Value.int IntKind.i64 g3, Value.int IntKind.i64 g4, Value.int IntKind.i64 q, Value.int IntKind.i64 r] gs (ps.take k))) (fun i _ => n2 - (intOf i).toNat)
      case atStart => exact ⟨0, by omega, rfl, HF⟩
      case round =>
        obtain ⟨j, hj, rfl, HQ⟩ := hrel
        clear HF p1 p2 p3 p4 p5 p6 p7 p8 hzv hki hlt hk
        obtain ⟨p1, p2, p3, p4, p5, p6, p7, p8⟩ := HQ.out.at
        have hzv := HQ.out.size
        by_cases hlt : j < n2
        · have hki : (j : Int) < (n2 : Int) := by omega
          obtain ⟨b, off, rfl, hb, _, e0, e1, e2, e3⟩ := HX.out.p.cells HQ.out.bel hlt
          have HG := hideP (HX.out.p.rng (k := j) (by rw [← HN.out.2]; exact hlt))
          have HTK := hideP (take_snoc (xs := ps) (k := j) (by rw [← HN.out.2]; exact hlt))
          obtain ⟨t, ht⟩ : ∃ t, t = ps.getD j Q4.none := ⟨_, rfl⟩
          rw [← ht] at e0 e1 e2 e3 HG HTK
          clear ht
          obtain ⟨ta, tb, tc, td⟩ := t
          dsimp only at e0 e1 e2 e3
          obtain ⟨n, F, hn, hM, hF⟩ := HQ.out.m2
          have HM : Hid (∀ o, MapQ (wr.alloc o) 105 (w.heap.size + 1 + 1 + 1) n F) := hideP (fun o => hM.below (below1 _ _))
          have HFF := hideP (And.intro hn hF)
          have HNL : Hid (n < maxLen) := hideP (len_lt hn (by omega))
          clear hn hM hF
          go_wp2_with (first
            | (at_mapUpdate; refine wpList_mapUpdate_q _ rfl _ _ _ 70 rfl 105 63 keyedS und70 (w.heap.size + 1 + 1 + 1) n F rfl (HM.out _) HNL.out _ ⟨ta, tb, tc, td⟩ _ rfl rfl (keyS HG.out.1 HG.out.2.1) ?_; intro w1 hm1 hg1))
          have HF2 := hideP ((HQ.out.below (below1 wr (.cells #[.int .i64 ta, .int .i64 tb, .int .i64 tc, .int .i64 td] 63))).put2 hg1 (PMap.put (y := ⟨ta, tb, tc, td⟩) HG.out.1 HG.out.2.1 HFF.out.1 HFF.out.2 hm1))
          clear hm1 hg1
          go_wp2
          go_roundw
          case rel => exact ⟨j + 1, by omega, by go_num, hideP (by rw [HTK.out]; exact HF2.out)⟩
          case measure => simp [intOf]; omega
        · have hki : ¬ (j : Int) < (n2 : Int) := by omega
          have HK : Hid (ps.take j = ps) := hideP (by rw [List.take_of_length_le]; rw [← HN.out.2]; omega)
          rw [HK.out] at HQ
          clear HK
          go_wp2
          refine bodyPost_ret (v := .agg #[.map (some (w.heap.size + 1 + 1)), .map (some (w.heap.size + 1 + 1 + 1))]) (by simp [results, Try.results52, go_sem, p3, p4, p5, p6]) rfl ⟨_, rfl, ⟨_, _, rfl, by omega, by omega, HQ.out.m1.same ?_, HQ.out.m2.same ?_⟩, ?_⟩
          · rw [Below.heap_setCell _ _ _ _ (by simp; try omega), Below.heap_setCell _ _ _ _ (by simp; try omega)]
          · rw [Below.heap_setCell _ _ _ _ (by simp; try omega), Below.heap_setCell _ _ _ _ (by simp; try omega)]
          · exact (HQ.out.bel.setCell (by first | exact Nat.le_succ _ | (simp; omega)) _).setCell (by first | exact Nat.le_succ _ | (simp; omega)) _
end Go.Proofs.Ytggcfgbpameppaa
