/-
  How large the parts of a word are: the program.
-/
import Derived.Test.YtggcfgbpameppaaSet
namespace Go.Proofs.Ytggcfgbpameppaa
open Go.RowKit Go.Maps
set_option linter.unusedVariables false
set_option linter.unusedSimpArgs false

/-- A size: width, height, depth. -/
structure S3 where
  a : Int
  b : Int
  c : Int
def mxI (x y : Int) : Int := if x < y then y else x
/-- What one piece adds. -/
def stp (gs : List Q4) (s : S3) (p : Int × Int) : S3 :=
  if p.1 < 0 then ⟨wrap64 (s.a + p.2), s.b, s.c⟩
  else ⟨wrap64 (s.a + ((look1 gs p.1).getD Q4.none).b), mxI s.b ((look1 gs p.1).getD Q4.none).c, mxI s.c ((look1 gs p.1).getD Q4.none).d⟩
def szL (gs : List Q4) (ps : List (Int × Int)) : S3 := ps.foldl (stp gs) ⟨0, 0, 0⟩
theorem szL_snoc (gs : List Q4) (l : List (Int × Int)) (p : Int × Int) : szL gs (l ++ [p]) = stp gs (szL gs l) p := by unfold szL; rw [List.foldl_append]; rfl
theorem mx_ge {x y : Int} (h : 0 ≤ x) : 0 ≤ mxI x y := by unfold mxI; split <;> omega
/-- What a part of a word is. -/
def vpt (gs : List Q4) (t : Int × Int × Int) : Prop := (t.1 = -1 ∧ I64 t.2.1) ∨ (0 ≤ t.1 ∧ t.1 ≤ 255 ∧ hasB gs t.1 = true ∧ t.2.1 = 0)
theorem jn_ok {gs ps : List Q4} (hp : ∀ l r, 0 ≤ (prO ps l r).c → (prO ps l r).c ≤ 255 ∧ hasB gs (prO ps l r).c = true) (hd : ∀ l r, I64 (prO ps l r).d) : ∀ (xs : List Int) (cc nc : Int), (0 ≤ cc ∧ cc ≤ 255 ∧ hasB gs cc = true) → (∀ x ∈ xs, 0 ≤ x ∧ x ≤ 255 ∧ hasB gs x = true) → ∀ t ∈ jn ps cc nc xs, vpt gs t
  | [], cc, nc, hc, _, t, ht => by
    simp only [jn, List.mem_singleton] at ht
    subst ht
    exact Or.inr ⟨hc.1, hc.2.1, hc.2.2, rfl⟩
  | x :: r, cc, nc, hc, hx, t, ht => by
    have hr : ∀ y ∈ r, 0 ≤ y ∧ y ≤ 255 ∧ hasB gs y = true := fun y hy => hx y (List.mem_cons_of_mem _ hy)
    unfold jn at ht
    by_cases h : 0 ≤ (prO ps cc x).c
    · rw [if_pos h] at ht
      exact jn_ok hp hd r _ _ ⟨h, (hp cc x h).1, (hp cc x h).2⟩ hr t ht
    · rw [if_neg h] at ht
      rcases List.mem_cons.1 ht with rfl | ht
      · exact Or.inr ⟨hc.1, hc.2.1, hc.2.2, rfl⟩
      · rcases List.mem_append.1 ht with ht | ht
        · by_cases hz : (prO ps cc x).d = 0
          · rw [if_pos hz] at ht
            cases ht
          · rw [if_neg hz] at ht
            simp only [List.mem_singleton] at ht
            subst ht
            exact Or.inl ⟨rfl, hd cc x⟩
        · exact jn_ok hp hd r _ _ (hx x (by simp)) hr t ht
theorem st_ok {gs ps : List Q4} {bs : List Int} (hp : ∀ l r, 0 ≤ (prO ps l r).c → (prO ps l r).c ≤ 255 ∧ hasB gs (prO ps l r).c = true) (hd : ∀ l r, I64 (prO ps l r).d) (hb : ∀ x ∈ bs, 0 ≤ x ∧ x ≤ 255) : ∀ t ∈ stL gs ps bs, vpt gs t := by
  intro t ht
  unfold stL at ht
  have hb2 : ∀ x ∈ bs.filter (hasB gs), 0 ≤ x ∧ x ≤ 255 ∧ hasB gs x = true := fun x hx => by
    obtain ⟨h1, h2⟩ := List.mem_filter.1 hx
    have := hb x h1
    exact ⟨this.1, this.2, h2⟩
  cases hf : bs.filter (hasB gs) with
  | nil => rw [hf] at ht; cases ht
  | cons x r =>
    rw [hf] at ht hb2
    exact jn_ok hp hd r x 1 (hb2 x (by simp)) (fun y hy => hb2 y (List.mem_cons_of_mem _ hy)) t ht
theorem font_prO {f : Fo} {gs ps : List Q4} (h : fontB f gs ps = true) (l r : Int) (hc : 0 ≤ (prO ps l r).c) : (prO ps l r).c ≤ 255 ∧ hasB gs (prO ps l r).c = true := by
  simp only [fontB, Bool.and_eq_true] at h
  have hps : psB gs ps = true := by simpa using h.1.1.1.2
  have hgs : gsB gs = true := by simpa using h.1.1.1.1.2
  have hall := (of_decide_eq_true hps).1
  have hag := (of_decide_eq_true hgs).1
  have key : hasB gs (prO ps l r).c = true := by
    unfold prO at hc ⊢
    cases hf : look2 ps l r with
    | none => rw [hf] at hc; simp at hc
    | some x =>
      rw [hf] at hc
      unfold look2 at hf
      have h2 := List.mem_of_find?_eq_some hf
      rw [List.mem_reverse] at h2
      obtain ⟨k, hk, rfl⟩ := List.getElem_of_mem h2
      have h3 := hall k hk
      rw [List.getD_eq_getElem?_getD, List.getElem?_eq_getElem hk] at h3
      simp only [Option.getD_some] at h3 hc ⊢
      unfold pairB at h3
      rw [if_neg (by omega)] at h3
      simp only [Bool.and_eq_true] at h3
      exact h3.1.2
  refine ⟨?_, key⟩
  obtain ⟨k, hk, he⟩ := hasB_iff.1 key
  have := (gB_code (hag k hk)).2
  omega
theorem font_codes {f : Fo} {gs ps : List Q4} (h : fontB f gs ps = true) {c : Int} (hc : c < 0) : look1 gs c = none := by
  simp only [fontB, Bool.and_eq_true] at h
  have hgs : gsB gs = true := by simpa using h.1.1.1.1.2
  have hag := (of_decide_eq_true hgs).1
  apply look1_none
  cases hb : hasB gs c with
  | false => rfl
  | true =>
    obtain ⟨k, hk, he⟩ := hasB_iff.1 hb
    have := (gB_code (hag k hk)).1
    omega
/-- What is found of a glyph is of its size. -/
theorem font_width {f : Fo} {gs ps : List Q4} (h : fontB f gs ps = true) (c : Int) : 0 ≤ ((look1 gs c).getD Q4.none).b ∧ ((look1 gs c).getD Q4.none).b ≤ 6553600 := by
  simp only [fontB, Bool.and_eq_true] at h
  have hgs : gsB gs = true := by simpa using h.1.1.1.1.2
  have hag := (of_decide_eq_true hgs).1
  cases hf : look1 gs c with
  | none => exact ⟨by simp [Q4.none], by simp [Q4.none]⟩
  | some x =>
    unfold look1 at hf
    have h2 := List.mem_of_find?_eq_some hf
    rw [List.mem_reverse] at h2
    obtain ⟨k, hk, rfl⟩ := List.getElem_of_mem h2
    have h3 := hag k hk
    rw [List.getD_eq_getElem?_getD, List.getElem?_eq_getElem hk] at h3
    simp only [Option.getD_some, gB, szB, Bool.and_eq_true, decide_eq_true_eq] at h3 ⊢
    exact h3.1.1.2

def f3at (ts : List (Int × Int × Int)) (k j : Nat) : Value := (f3 ts).getD (k * 3 + j) undef
theorem f3_get {ts : List (Int × Int × Int)} : ∀ {k : Nat}, k < ts.length → (f3 ts)[k * 3]? = some (.int .i64 (ts.getD k (0, 0, 0)).1) ∧ (f3 ts)[k * 3 + 1]? = some (.int .i64 (ts.getD k (0, 0, 0)).2.1) ∧ (f3 ts)[k * 3 + 2]? = some (.int .i64 (ts.getD k (0, 0, 0)).2.2) := by
  induction ts with
  | nil => intro k hk; simp at hk
  | cons t r ih =>
    intro k hk
    cases k with
    | zero => exact ⟨rfl, rfl, rfl⟩
    | succ k =>
      have := ih (k := k) (by simpa using hk)
      have e : f3 (t :: r) = [.int .i64 t.1, .int .i64 t.2.1, .int .i64 t.2.2] ++ f3 r := rfl
      rw [e]
      refine ⟨?_, ?_, ?_⟩
      · rw [show (k + 1) * 3 = k * 3 + 3 by omega, List.getElem?_append_right (by simp)]
        simpa using this.1
      · rw [show (k + 1) * 3 + 1 = (k * 3 + 1) + 3 by omega, List.getElem?_append_right (by simp)]
        simpa using this.2.1
      · rw [show (k + 1) * 3 + 2 = (k * 3 + 2) + 3 by omega, List.getElem?_append_right (by simp)]
        simpa using this.2.2

/-- What stands while sizes are summed. -/
structure SInv (w wr : World) (b1 b2 : Nat) (s : S3) : Prop where
  box : wr.heap[w.heap.size]? = some (.cells #[.map (some b1), .map (some b2)] 72 (0, 0))
  res : wr.heap[w.heap.size + 1]? = some (.cells #[.int .i64 0, .int .i64 0, .int .i64 0] 55 (0, 0))
  all : wr.heap[w.heap.size + 1 + 1]? = some (.cells #[.int .i64 s.a, .int .i64 s.b, .int .i64 s.c] 55 (0, 0))
  bel : Below w.heap.size w wr
theorem SInv.lt {w wr : World} {b1 b2 : Nat} {s : S3} (h : SInv w wr b1 b2 s) : w.heap.size + 1 + 1 < wr.heap.size := (Array.getElem?_eq_some_iff.1 h.all).1
theorem SInv.below {w wr w' : World} {b1 b2 : Nat} {s : S3} (h : SInv w wr b1 b2 s) (hb : Below wr.heap.size wr w') : SInv w w' b1 b2 s := by
  have := h.lt
  exact ⟨(hb.block _ (by omega)).trans h.box, (hb.block _ (by omega)).trans h.res, (hb.block _ h.lt).trans h.all, below_more h.bel hb h.bel.size⟩
theorem SInv.set {w wr : World} {b1 b2 : Nat} {s : S3} (h : SInv w wr b1 b2 s) (x y z : Int) : SInv w (((wr.setCell ⟨w.heap.size + 1 + 1, 0, none⟩ (.int .i64 x)).setCell ⟨w.heap.size + 1 + 1, 1, none⟩ (.int .i64 y)).setCell ⟨w.heap.size + 1 + 1, 2, none⟩ (.int .i64 z)) b1 b2 ⟨x, y, z⟩ :=
  ⟨(set3_other (by omega) _ _ _).trans h.box, (set3_other (by omega) _ _ _).trans h.res, set3 h.all _ _ _, ((h.bel.setCell (by simp; omega) _).setCell (by simp; omega) _).setCell (by simp; omega) _⟩
theorem SInv.at {w wr : World} {b1 b2 : Nat} {s : S3} (h : SInv w wr b1 b2 s) : wr.cell? ⟨w.heap.size, 0, none⟩ = some (.map (some b1)) ∧ wr.cell? ⟨w.heap.size + 1 + 1, 0, none⟩ = some (.int .i64 s.a) ∧ wr.cell? ⟨w.heap.size + 1 + 1, 1, none⟩ = some (.int .i64 s.b) ∧ wr.cell? ⟨w.heap.size + 1 + 1, 2, none⟩ = some (.int .i64 s.c) ∧ (∀ j, wr.frozen? ⟨w.heap.size + 1 + 1, j, none⟩ = false) ∧ (∀ j, wr.frozen? ⟨w.heap.size + 1, j, none⟩ = false) ∧ wr.cell? ⟨w.heap.size + 1, 0, none⟩ = some (.int .i64 0) ∧ wr.cell? ⟨w.heap.size + 1, 1, none⟩ = some (.int .i64 0) ∧ wr.cell? ⟨w.heap.size + 1, 2, none⟩ = some (.int .i64 0) :=
  ⟨by rw [cell_of_row _ _ _ _ _ _ h.box]; rfl, by rw [cell_of_row _ _ _ _ _ _ h.all]; rfl, by rw [cell_of_row _ _ _ _ _ _ h.all]; rfl, by rw [cell_of_row _ _ _ _ _ _ h.all]; rfl, fun j => frozen_of_row _ _ _ _ _ h.all, fun j => frozen_of_row _ _ _ _ _ h.res, by rw [cell_of_row _ _ _ _ _ _ h.res]; rfl, by rw [cell_of_row _ _ _ _ _ _ h.res]; rfl, by rw [cell_of_row _ _ _ _ _ _ h.res]; rfl⟩
theorem SInv.start (w : World) (b1 b2 : Nat) : SInv w (((w.alloc (.cells #[.map (some b1), .map (some b2)] 72)).alloc (.cells #[.int .i64 0, .int .i64 0, .int .i64 0] 55)).alloc (.cells #[.int .i64 0, .int .i64 0, .int .i64 0] 55)) b1 b2 ⟨0, 0, 0⟩ := by
  obtain ⟨W1, h1⟩ : ∃ W, W = w.alloc (.cells #[.map (some b1), .map (some b2)] 72) := ⟨_, rfl⟩
  obtain ⟨W2, h2⟩ : ∃ W, W = W1.alloc (.cells #[.int .i64 0, .int .i64 0, .int .i64 0] 55) := ⟨_, rfl⟩
  rw [← h1, ← h2]
  have s1 : W1.heap.size = w.heap.size + 1 := by rw [h1]; simp
  have s2 : W2.heap.size = w.heap.size + 1 + 1 := by rw [h2]; simp [s1]
  have b0 : Below w.heap.size w W1 := by rw [h1]; exact below1 _ _
  have b1' : Below W1.heap.size W1 W2 := by rw [h2]; exact below1 _ _
  have b2' := below1 W2 (.cells #[.int .i64 0, .int .i64 0, .int .i64 0] 55)
  have b12 := below_more b1' b2' b1'.size
  refine ⟨(b12.block _ (by omega)).trans (by rw [h1]; exact heap_alloc_new _ _), (b2'.block _ (by omega)).trans (by rw [h2, ← s1]; exact heap_alloc_new _ _), by rw [← s2]; exact heap_alloc_new _ _, below_more b0 b12 b0.size⟩

set_option maxRecDepth 20000 in
set_option maxHeartbeats 8000000 in
theorem size_any {v t : Value} {lo lo2 : Nat} {f : Fo} {gs ps : List Q4} {ts : List (Int × Int × Int)} {w : World} (hf : Face w v lo gs ps) (hF : fontB f gs ps = true) (ht : w.ownsRow lo2 83 3 t ts.length (f3 ts)) (hv : ∀ x ∈ ts, vpt gs x) (hl : ts.length ≤ 2000) :
    Calls Try.prog 46 #[v, t] w fun e w' => e = .returned (.agg #[.int .i64 (szL gs (ts.map pc)).a, .int .i64 (szL gs (ts.map pc)).b, .int .i64 (szL gs (ts.map pc)).c]) ∧ Below w.heap.size w w' := by
  obtain ⟨b1, b2, rfl, _, _, hgm, _⟩ := hf.ex
  obtain ⟨nn, F, hn, hM, hFF⟩ := hgm
  have HMM : Hid (∀ W, Below w.heap.size w W → MapQ W 2 b1 nn F) := hideP (fun W hW => hM.below hW)
  have HFF : Hid (∀ c, I64 c → F (.int .i64 c) = look1 gs c) := hideP hFF
  have HV := hideP hv
  have HFB := hideP hF
  obtain ⟨n, hn0⟩ : ∃ n, n = ts.length := ⟨_, rfl⟩
  have hnl : n ≤ 2000 := by omega
  have HN := hideP hn0
  have ht' := ht
  rw [← hn0] at ht'
  obtain ⟨at0, ct, rfl⟩ := ownG_shape ht'
  have CL : Hid (∀ W, Below w.heap.size w W → ∀ k, k < n → ∃ g, at0 = some ⟨g, 0, none⟩ ∧ g < W.heap.size ∧ W.cell? ⟨g, k * 3, none⟩ = some (.int .i64 (ts.getD k (0, 0, 0)).1) ∧ W.cell? ⟨g, k * 3 + 1, none⟩ = some (.int .i64 (ts.getD k (0, 0, 0)).2.1) ∧ W.cell? ⟨g, k * 3 + 2, none⟩ = some (.int .i64 (ts.getD k (0, 0, 0)).2.2)) := hideP (fun W hW k hk => by
    rcases ht'.2 with ⟨_, h0⟩ | ⟨g, cap, cur, he, _, hg, _⟩
    · omega
    · simp only [Value.slice.injEq] at he
      obtain ⟨rfl, _, rfl⟩ := he
      have hgl := (Array.getElem?_eq_some_iff.1 hg).1
      obtain ⟨e0, e1, e2⟩ := f3_get (ts := ts) (k := k) (by omega)
      have hlen := f3_len ts
      refine ⟨g, rfl, Nat.lt_of_lt_of_le hgl hW.size, ?_, ?_, ?_⟩
      · rw [hW.cell (p := ⟨g, k * 3, none⟩) hgl, World.ownsRow.cellAt ht' (k * 3) (by omega)]; exact e0
      · rw [hW.cell (p := ⟨g, k * 3 + 1, none⟩) hgl, World.ownsRow.cellAt ht' (k * 3 + 1) (by omega)]; exact e1
      · rw [hW.cell (p := ⟨g, k * 3 + 2, none⟩) hgl, World.ownsRow.cellAt ht' (k * 3 + 2) (by omega)]; exact e2)
  rw [← hn0] at ht
  clear hf hF ht ht' hv hl hn hM hFF hn0
  have S0 := hideP (SInv.start w b1 b2)
  go_enter Try.func46, Try.ntmps46
  go_wp2
  go_loopw [11] (fun i wr => ∃ (k : Nat) (s : S3), k ≤ n ∧ i = .int .i64 k ∧ Hid (SInv w wr b1 b2 s) ∧ Hid (s = szL gs ((ts.take k).map pc) ∧ 0 ≤ s.b ∧ 0 ≤ s.c)) (fun i _ => n - (intOf i).toNat)
  case atStart => exact ⟨0, ⟨0, 0, 0⟩, by omega, rfl, S0, hideP ⟨rfl, by simp, by simp⟩⟩
  case round =>
    obtain ⟨k, s, hk, rfl, HS, HE⟩ := hrel
    clear S0
    obtain ⟨p0, q0, q1, q2, fz, fy, r0, r1, r2⟩ := HS.out.at
    have hzP := HS.out.lt
    have hzQ : w.heap.size + 1 < wr.heap.size := by omega
    have hzR : w.heap.size < wr.heap.size := by omega
    obtain ⟨sa, sb, sc⟩ := s
    dsimp only at q0 q1 q2
    by_cases hlt : k < n
    · have hki : (k : Int) < (n : Int) := by omega
      obtain ⟨g, rfl, hgl, e0, e1, e2⟩ := CL.out wr HS.out.bel k hlt
      obtain ⟨t, htt⟩ : ∃ t, t = ts.getD k (0, 0, 0) := ⟨_, rfl⟩
      rw [← htt] at e0 e1 e2
      have hmem : t ∈ ts := by rw [htt, List.getD_eq_getElem?_getD, List.getElem?_eq_getElem (by rw [← HN.out]; exact hlt)]; exact List.getElem_mem _
      have HVT := hideP (HV.out t hmem)
      have HTK : Hid ((ts.take (k + 1)).map pc = (ts.take k).map pc ++ [pc t]) := hideP (by
        rw [htt, List.getD_eq_getElem?_getD, List.take_add_one, List.getElem?_eq_getElem (by rw [← HN.out]; exact hlt), List.map_append]
        rfl)
      clear htt hmem
      obtain ⟨tc, tk, tn⟩ := t
      dsimp only at e0 e1 e2
      have htcI : I64 tc := by
        rcases HVT.out with h | h
        · have h1 : tc = -1 := h.1
          exact ⟨by omega, by omega⟩
        · have h1 : 0 ≤ tc := h.1
          have h2 : tc ≤ 255 := h.2.1
          exact ⟨by omega, by omega⟩
      obtain ⟨⟨ga, gb, gc, gd⟩, hgg⟩ : ∃ g, g = (look1 gs tc).getD Q4.none := ⟨_, rfl⟩
      have HX : Hid ((⟨ga, gb, gc, gd⟩ : Q4) = (F (.int .i64 tc)).getD Q4.none) := hideP (by rw [hgg, HFF.out tc htcI])
      have HGW := hideP (font_width HFB.out tc)
      rw [← hgg] at HGW
      have HST : Hid (stp gs ⟨sa, sb, sc⟩ (tc, tk) = ⟨wrap64 (sa + wrap64 (gb + tk)), mxI sb gc, mxI sc gd⟩) := hideP (by
        have hb0 : 0 ≤ sb := HE.out.2.1
        have hc0 : 0 ≤ sc := HE.out.2.2
        rcases HVT.out with h | h
        · have h1 : tc = -1 := h.1
          have h2 : I64 tk := h.2
          have h3 : (⟨ga, gb, gc, gd⟩ : Q4) = ⟨0, 0, 0, 0⟩ := by rw [hgg, font_codes HFB.out (by omega)]; rfl
          simp only [Q4.mk.injEq] at h3
          obtain ⟨rfl, rfl, rfl, rfl⟩ := h3
          have h4 : wrap64 (0 + tk) = tk := by simp only [wrap64]; obtain ⟨_, _⟩ := h2; omega
          unfold stp mxI
          rw [if_pos (by simp only; omega), h4, if_neg (by omega), if_neg (by omega)]
        · have h1 : 0 ≤ tc := h.1
          have h2 : tk = 0 := h.2.2.2
          have h5 : 0 ≤ gb ∧ gb ≤ 6553600 := HGW.out
          have h4 : wrap64 (gb + tk) = gb := by simp only [wrap64]; omega
          unfold stp
          rw [if_neg (by simp only; omega), h4]
          simp only
          rw [← hgg])
      clear hgg
      have HM2 : Hid (∀ o o2, MapQ ((wr.alloc o).alloc o2) 2 b1 nn F) := hideP (fun o o2 => HMM.out _ ((HS.out.bel.alloc HS.out.bel.size o).alloc (by simp; have := HS.out.bel.size; omega) o2))
      have HM1 : Hid (∀ o, MapQ (wr.alloc o) 2 b1 nn F) := hideP (fun o => HMM.out _ (HS.out.bel.alloc HS.out.bel.size o))
      go_wp2_with (first
        | (at_lookup; refine wpList_lookup_q1 _ rfl _ _ 69 rfl 2 39 keyedI und69 (zero39 _) b1 nn F rfl (HM1.out _) _ _ rfl (keyI htcI) ?_; rw [← HX.out]; simp only [q4V]))
      refine ⟨⟨k + 1, ⟨wrap64 (sa + wrap64 (gb + tk)), mxI sb gc, mxI sc gd⟩, by omega, by go_num, hideP (((HS.out.set (wrap64 (sa + wrap64 (gb + tk))) (mxI sb gc) (mxI sc gd)).below (below1 _ _)).below (below1 _ _)), hideP ⟨?_, mx_ge HE.out.2.1, mx_ge HE.out.2.2⟩⟩, by simp [intOf]; omega⟩
      rw [HTK.out, szL_snoc, ← HE.out.1]
      exact HST.out.symm
    · have hki : ¬ (k : Int) < (n : Int) := by omega
      have HQ : Hid ((⟨sa, sb, sc⟩ : S3) = szL gs (ts.map pc)) := hideP (by rw [HE.out.1, List.take_of_length_le (by rw [← HN.out]; omega)])
      go_wp2
      refine bodyPost_ret (v := .agg #[.int .i64 sa, .int .i64 sb, .int .i64 sc]) (by simp [results, Try.results46, go_sem, q0, q1, q2, r0, r1, r2]) rfl ⟨by rw [← HQ.out], ?_⟩
      have B9 := HS.out.bel
      clear p0 q0 q1 q2 fz fy r0 r1 r2
      repeat (first | with_reducible exact B9 | (with_reducible refine Below.setCell ?_ ?_ _; rotate_left; focus (first | (simp; done) | (simp; omega))))
end Go.Proofs.Ytggcfgbpameppaa
