/-
  The lists for the slots of a pattern, on the specification's side, as a walk.
-/
import Derived.Test.YtbceblgnjicdcaaSlt
import Derived.Test.YtbceblgnjicdcaaRws
namespace Go.Proofs.Ytbceblgnjicdcaa
open Go.RowKit
set_option linter.unusedVariables false
set_option linter.unusedSimpArgs false

def AInv (W1 : World) (s m : Nat) (M : Int × List (List Tk) × List Tk) (p : List Tk) (o iv : Value) (wr : World) : Prop :=
  ∃ (vs : List Value) (acc : List (List Tk)) (r : List Tk) (c : Int) (i n : Nat), iv = .int .i64 i ∧ i ≤ m ∧ wr.ownsRow W1.heap.size 32 1 o n vs ∧ o ≠ .slice none 0 0 ∧ n ≤ i ∧ AOf W1.heap.size wr vs acc ∧ St wr s r c ∧ Fr s W1 wr ∧ r.length ≤ 20000 ∧
    ((c = 0 ∧ M = mat (m + 1 - i) (p.drop i) r acc) ∨ (c ≠ 0 ∧ M.1 = c ∧ M.2.2 = r))

theorem mat_no {f : Nat} {t u : Tk} {p r : List Tk} {acc : List (List Tk)} (h : ¬ t.c = 16) (hu : tkEq u t = false) : mat (f + 1) (t :: p) (u :: r) acc = (2, acc, r) := by rw [mat, if_neg h, hu]; rfl
theorem mat_on {f : Nat} {t u : Tk} {p r : List Tk} {acc : List (List Tk)} (h : ¬ t.c = 16) (hu : tkEq u t = true) : mat (f + 1) (t :: p) (u :: r) acc = mat f p r acc := by rw [mat, if_neg h, hu]; rfl
theorem mat_end {f : Nat} {t : Tk} {p : List Tk} {acc : List (List Tk)} (h : ¬ t.c = 16) : mat (f + 1) (t :: p) [] acc = (1, acc, []) := by rw [mat, if_neg h]
theorem tw_len : ∀ (q : List Tk) (d : Nat), d ≤ q.length → (∀ j, j < d → noSlot (q.getD j Tk.none) = true) → (d < q.length → noSlot (q.getD d Tk.none) = false) → (q.takeWhile noSlot).length = d
  | [], d, h, _, _ => by simp at h; simp [h]
  | t :: q, 0, h, _, h2 => by
    have := h2 (by simp)
    simp at this
    simp [List.takeWhile_cons, this]
  | t :: q, d + 1, h, h1, h2 => by
    have h0 := h1 0 (by omega)
    simp at h0
    rw [List.takeWhile_cons, if_pos h0, List.length_cons, tw_len q d (by simpa using h) (fun j hj => by simpa using h1 (j + 1) (by omega)) (fun hd => by simpa using h2 (by simpa using hd))]
def ArgR (w w' : World) (s : Nat) (M : Int × List (List Tk) × List Tk) (v : Value) : Prop :=
  ∃ n vs, w'.ownsRow w.heap.size 32 1 v n vs ∧ v ≠ .slice none 0 0 ∧ St w' s M.2.2 M.1 ∧ (M.1 = 0 → AOf w.heap.size w' vs M.2.1) ∧ Fr s w w'
theorem own1_mono {base base' n : Nat} {w : World} {v : Value} {xs : List Value} (h : w.ownsRow base 32 1 v n xs) (hb : base' ≤ base) : w.ownsRow base' 32 1 v n xs := by
  obtain ⟨hl, h | ⟨g, cap, cur, rfl, hg, hr⟩⟩ := h
  · exact ⟨hl, .inl h⟩
  · exact ⟨hl, .inr ⟨g, cap, cur, rfl, Nat.le_trans hb hg, hr⟩⟩
theorem AOf.mono {base base' : Nat} {w : World} (hb : base' ≤ base) : ∀ (vs : List Value) (rs : List (List Tk)), AOf base w vs rs → AOf base' w vs rs
  | [], [], _ => trivial
  | v :: vs, r :: rs, h => ⟨⟨own_mono h.1.1 hb, h.1.2⟩, AOf.mono hb vs rs h.2⟩
  | [], _ :: _, h => h
  | _ :: _, [], h => h
theorem own1_fr {lo n s : Nat} {w w' : World} {v : Value} {xs : List Value} (h : w.ownsRow lo 32 1 v n xs) (hf : Fr s w w') (hs : s < lo) : w'.ownsRow lo 32 1 v n xs := by
  obtain ⟨hl, h | ⟨g, cap, cur, rfl, hg, hb, hr⟩⟩ := h
  · exact ⟨hl, .inl h⟩
  · exact ⟨hl, .inr ⟨g, cap, cur, rfl, hg, (hf.2.block g (by omega) (Array.getElem?_eq_some_iff.1 hb).1).trans hb, hr⟩⟩

theorem plain_len (r : List Tk) : (plain r).2.2.length ≤ r.length := by
  have hd := (List.dropWhile_suffix (l := r) isSp).length_le
  unfold plain
  cases h : r.dropWhile isSp with
  | nil => simp
  | cons t q =>
    rw [h] at hd
    simp only [List.length_cons] at hd
    have hg : ∀ (k : Nat) (q a b : List Tk), grpGo k q = some (a, b) → b.length ≤ q.length := by
      intro k q
      induction q generalizing k with
      | nil => intro a b h; simp [grpGo] at h
      | cons u q ih =>
        intro a b h
        rw [grpGo] at h
        split at h
        · cases h2 : grpGo (k + 1) q with
          | none => simp [h2] at h
          | some z => obtain ⟨z1, z2⟩ := z; simp [h2] at h; have := ih _ _ _ h2; rw [← h.2]; simp; omega
        · split at h
          · split at h
            · simp at h; rw [← h.2]; simp
            · cases h2 : grpGo (k - 1) q with
              | none => simp [h2] at h
              | some z => obtain ⟨z1, z2⟩ := z; simp [h2] at h; have := ih _ _ _ h2; rw [← h.2]; simp; omega
          · cases h2 : grpGo k q with
            | none => simp [h2] at h
            | some z => obtain ⟨z1, z2⟩ := z; simp [h2] at h; have := ih _ _ _ h2; rw [← h.2]; simp; omega
    dsimp only
    repeat' split
    all_goals first
      | (rename_i h3; have := hg _ _ _ _ h3; simp only; omega)
      | (simp only [List.length_nil]; omega)
      | (simp only; omega)
theorem unt_len : ∀ (row : List Tk) (r : List Tk) (o : Int) (xs : List Tk), (unt row o xs r).2.2.length ≤ r.length
  | row, [], o, xs => by simp [unt]
  | row, t :: r, o, xs => by
    rw [unt]
    split
    · simp
    · split
      · simp
      · have := unt_len row r (o + dl t) (xs ++ [t]); simp; omega
theorem tw_take (q : List Tk) {d : Nat} (h : (q.takeWhile noSlot).length = d) : q.takeWhile noSlot = q.take d := by
  have := List.prefix_iff_eq_take.1 (List.takeWhile_prefix (l := q) noSlot)
  rw [h] at this
  exact this
theorem mat_fuel : ∀ (f f' : Nat) (p r : List Tk) (acc : List (List Tk)), p.length < f → p.length < f' → mat f p r acc = mat f' p r acc
  | 0, _, p, r, acc, h, _ => by simp at h
  | _ + 1, 0, p, r, acc, _, h => by simp at h
  | f + 1, f' + 1, [], r, acc, _, _ => by rw [mat, mat]
  | f + 1, f' + 1, t :: p, r, acc, h, h' => by
    have hp : p.length < f := by simp at h; omega
    have hp' : p.length < f' := by simp at h'; omega
    have hd : ∀ k, (p.drop k).length < f := fun k => by rw [List.length_drop]; omega
    have hd' : ∀ k, (p.drop k).length < f' := fun k => by rw [List.length_drop]; omega
    unfold mat
    rw [mat_fuel f f' p _ _ hp hp', mat_fuel f f' (p.drop _) _ _ (hd _) (hd' _)]
    cases r with
    | nil => rfl
    | cons u r => dsimp only; rw [mat_fuel f f' p r acc hp hp']
theorem mat_plain {f : Nat} {t : Tk} {p r : List Tk} {acc : List (List Tk)} (h : t.c = 16) (h0 : (p.takeWhile noSlot).length = 0) : mat (f + 1) (t :: p) r acc = if (plain r).1 = 0 then mat f p (plain r).2.2 (acc ++ [(plain r).2.1]) else ((plain r).1, acc, (plain r).2.2) := by cases r <;> rw [mat, if_pos h, if_pos h0]
theorem mat_until {f d : Nat} {t : Tk} {p r : List Tk} {acc : List (List Tk)} (h : t.c = 16) (h0 : (p.takeWhile noSlot).length = d) (hd : d ≠ 0) : mat (f + 1) (t :: p) r acc = if (unt (p.take d) 0 [] r).1 = 0 then mat f (p.drop d) (unt (p.take d) 0 [] r).2.2 (acc ++ [(unt (p.take d) 0 [] r).2.1]) else ((unt (p.take d) 0 [] r).1, acc, (unt (p.take d) 0 [] r).2.2) := by
  cases r <;> rw [mat, if_pos h, h0, if_neg hd, tw_take p h0]
theorem grown_keep {base n : Nat} {w w5 : World} {v : Value} {vs : List Value} {o : Obj} (hown : w.ownsRow base 32 1 v n vs) (hgrow : (w.alloc o).grownBy w5 v.ownBlock) (g : Nat) (cur : Array Value) (h : w.heap[g]? = some (.cells cur 31)) : w5.heap[g]? = w.heap[g]? := by
  have hlt := (Array.getElem?_eq_some_iff.1 h).1
  rw [hgrow.block g (by simp; omega) (fun e => ?_)]
  · exact (below1 w o).block g hlt
  · rcases hown.2 with ⟨rfl, _⟩ | ⟨g', cap, cur', rfl, hb, hg, _⟩
    · simp [Value.ownBlock] at e
    · simp [Value.ownBlock] at e
      subst e
      rw [hg] at h
      simp at h
theorem own_kept {base n : Nat} {w w' : World} {v : Value} {xs : List Value} (h : w.ownsRow base 31 3 v n xs) (hk : ∀ (g : Nat) (cur : Array Value), w.heap[g]? = some (.cells cur 31) → w'.heap[g]? = w.heap[g]?) : w'.ownsRow base 31 3 v n xs := by
  obtain ⟨hl, h' | ⟨g, cap, cur, rfl, hg, hb, hr⟩⟩ := h
  · exact ⟨hl, .inl h'⟩
  · exact ⟨hl, .inr ⟨g, cap, cur, rfl, hg, (hk g cur hb).trans hb, hr⟩⟩

theorem own1_keep {base n : Nat} {w w' : World} {v : Value} {xs : List Value} (h : w.ownsRow base 32 1 v n xs) (hk : ∀ g, base ≤ g → g < w.heap.size → w'.heap[g]? = w.heap[g]?) : w'.ownsRow base 32 1 v n xs := by
  obtain ⟨hl, h' | ⟨g, cap, cur, rfl, hg, hb, hr⟩⟩ := h
  · exact ⟨hl, .inl h'⟩
  · exact ⟨hl, .inr ⟨g, cap, cur, rfl, hg, (hk g hg (Array.getElem?_eq_some_iff.1 hb).1).trans hb, hr⟩⟩

set_option maxRecDepth 100000 in
set_option maxHeartbeats 8000000 in
theorem l4Args_any {w : World} {s rb roff m rcap : Nat} {rest p : List Tk} {vb : Value} {sl : Int} (h : St w s rest 0) (hl : rest.length ≤ 20000) (hp : TOn 0 w (.slice (some ⟨rb, roff, none⟩) m rcap) p) (hrb : rb < s) (lm : m ≤ 1000) :
    Calls Try.prog 66 #[ptr s, macV (.slice (some ⟨rb, roff, none⟩) m rcap) sl vb] w fun e w' => ∃ v, e = .returned v ∧ ArgR w w' s (mat (m + 1) p rest []) v := by
  obtain ⟨i0, hi, hz0, hz1', hz2⟩ := info_parts Try.info32
  obtain ⟨j0, hj, hy0, hy1, hy2⟩ := info_parts Try.info31
  have hsz := St.lt h
  have H : Hid (St w s rest 0) := h
  have HROW : Hid (TOn 0 w (.slice (some ⟨rb, roff, none⟩) m rcap) p) := hp
  have HPL : Hid (m = p.length) := by obtain ⟨_, _, _, e, _⟩ := hp; simp at e; exact e.2.1
  obtain ⟨M, hM⟩ : ∃ M, M = mat (m + 1) p rest [] := ⟨_, rfl⟩
  rw [← hM]
  have HM : Hid (M = mat (m + 1) p rest []) := hM
  clear h hp hM
  go_enter Try.func66, Try.ntmps66
  go_wp2_with fail
  obtain ⟨W1, hW1⟩ : ∃ W, W = w.alloc (.cells #[.slice (some ⟨rb, roff, none⟩) m rcap, .int .i64 sl, vb] 34) := ⟨_, rfl⟩
  have hz1 : W1.heap.size = w.heap.size + 1 := by rw [hW1]; simp
  have HBOX : Hid (W1.heap[w.heap.size]? = some (.cells #[.slice (some ⟨rb, roff, none⟩) m rcap, .int .i64 sl, vb] 34)) := by rw [hW1]; exact Array.getElem?_push_size
  have HB1 : Hid (Below w.heap.size w W1) := by rw [hW1]; exact below1 _ _
  have HR1 : Hid (TOn 0 W1 (.slice (some ⟨rb, roff, none⟩) m rcap) p) := TOn.below HROW HB1
  have START : Hid (AInv W1 s m M p (.slice (some ⟨w.heap.size + 1, 0, none⟩) 0 0) (.int .i64 0) ((w.alloc (.cells #[.slice (some ⟨rb, roff, none⟩) m rcap, .int .i64 sl, vb] 34)).alloc (.cells #[] 32))) := by
    rw [← hW1, ← hz1]
    refine ⟨[], [], rest, 0, 0, 0, rfl, Nat.zero_le _, World.ownsRow_made W1 #[] 0 (Nat.le_refl _) (Nat.zero_le _) (by simp), by simp, Nat.le_refl _, trivial, St.fr (St.fr H HB1) (below1 _ _), Fr.below (below1 _ _) (by omega), hl, .inl ⟨rfl, HM⟩⟩
  have HWW : Hid (W1 = w.alloc (.cells #[.slice (some ⟨rb, roff, none⟩) m rcap, .int .i64 sl, vb] 34)) := hW1
  clear hW1
  go_loopw [5, 6] (fun o iv wr => Hid (AInv W1 s m M p o iv wr)) (fun _ iv _ => m - (intOf iv).toNat)
  case atStart => exact START
  case round =>
    clear START
    obtain ⟨vs, acc, r, c, i, nf, rfl, him, hown, hne, hni, hao, hst, hfr, hrl, hcase⟩ := hrel
    obtain ⟨ao, ocap, rfl⟩ := own1_shape hown
    have HOWN : Hid (wr.ownsRow W1.heap.size 32 1 (.slice ao nf ocap) nf vs) := hown
    have HST : Hid (St wr s r c) := hst
    have HFR : Hid (Fr s W1 wr) := hfr
    have HNE : Hid (Value.slice ao nf ocap ≠ .slice none 0 0) := hne
    have HAO : Hid (AOf W1.heap.size wr vs acc) := hao
    have hc3 := St.cell hst
    have hsr : s < wr.heap.size := St.lt hst
    have hwz : w.heap.size < wr.heap.size := by have := hfr.size; omega
    have box : wr.heap[w.heap.size]? = some (.cells #[.slice (some ⟨rb, roff, none⟩) m rcap, .int .i64 sl, vb] 34) := by rw [hfr.2.block _ (by omega) (by omega)]; exact HBOX
    have b0 : wr.cell? ⟨w.heap.size, 0, none⟩ = some (.slice (some ⟨rb, roff, none⟩) m rcap) := by rw [cell_of_row wr _ _ _ 34 _ box]; rfl
    have b1 : wr.cell? ⟨w.heap.size, 1, none⟩ = some (.int .i64 sl) := by rw [cell_of_row wr _ _ _ 34 _ box]; rfl
    have b2 : wr.cell? ⟨w.heap.size, 2, none⟩ = some vb := by rw [cell_of_row wr _ _ _ 34 _ box]; rfl
    have HPR : Hid (TOn 0 wr (.slice (some ⟨rb, roff, none⟩) m rcap) p) := TOn.fr HR1 hrb hfr
    have DONE : Hid (M.2.2 = r ∧ M.1 = c ∧ (c = 0 → M.2.1 = acc) → ArgR w wr s M (.slice ao nf ocap)) := by
      intro ⟨q1, q2, q3⟩
      refine ⟨nf, vs, own1_mono HOWN (by omega), HNE, by rw [q1, q2]; exact HST, fun h => ?_, (Fr.below HB1 (by omega)).trans HFR⟩
      rw [q2] at h
      rw [q3 h]
      exact AOf.mono (by omega) vs acc HAO
    clear hown hst hfr hne hao box
    rcases hcase with ⟨rfl, hg⟩ | ⟨hc0, hg1, hg2⟩
    · by_cases hkn : i < m
      · have hki : (i : Int) < (m : Int) := by omega
        have HG : Hid (M = mat (m + 1 - i) (p.drop i) r acc) := hg
        clear hg
        clear DONE
        have hpl : i < p.length := by have := show m = p.length from HPL; omega
        obtain ⟨t, ht⟩ : ∃ t, t = p.getD i Tk.none := ⟨_, rfl⟩
        have HDR : Hid (p.drop i = t :: p.drop (i + 1)) := by show _ = _; rw [ht, List.drop_eq_getElem_cons hpl]; simp [List.getD, List.getElem?_eq_getElem hpl]
        have HSL : Hid (∀ W, Below wr.heap.size wr W → Calls Try.prog 103 #[macV (.slice (some ⟨rb, roff, none⟩) m rcap) sl vb, .int .i64 (i : Int)] W fun e w' => e = .returned (.bool (decide (t.c = 16))) ∧ Below W.heap.size W w') := by
          intro W hW
          have q := l4Slot_any (i := i) (sl := sl) (vb := vb) (TRow.below (TOn.row HPR) hW) (by have := show m = p.length from HPL; omega) (by omega)
          rw [← ht, show decide (i < p.length ∧ t.c = 16) = decide (t.c = 16) by simp [hpl]] at q
          exact q
        have hfl := flat_get p i hpl
        rw [← ht] at hfl
        have HCE : Hid (∀ j u, (flat p)[j]? = some u → wr.cell? ⟨rb, roff + j, none⟩ = some u) := by
          obtain ⟨b2, off2, cap2, e, _, _, _, hcc⟩ := HPR
          simp at e
          obtain ⟨⟨rfl, rfl⟩, _, rfl⟩ := e
          exact hcc
        have k0 := HCE _ _ hfl.1
        have k1 := HCE _ _ hfl.2.1
        have k2 := HCE _ _ hfl.2.2
        have hrw : rb < wr.heap.size := by omega
        have HGT : Hid (M = mat (m - i + 1) (t :: p.drop (i + 1)) r acc) := by show M = _; rw [show M = _ from HG, show p.drop i = _ from HDR, show m + 1 - i = m - i + 1 by omega]
        clear hfl HCE ht HG
        obtain ⟨tc, th, ts⟩ := t
        dsimp only at k0 k1 k2
        go_wp2_with fail
        refine (HSL _ (Below.refl _ _)).mono ?_
        rintro e w2 ⟨rfl, hb2⟩
        have z12 : W1.heap.size ≤ wr.heap.size := HFR.size
        have S2 : Hid (St w2 s r 0) := St.fr HST hb2
        have O2 : Hid (w2.ownsRow W1.heap.size 32 1 (.slice ao nf ocap) nf vs) := own1_below HOWN hb2
        have A2 : Hid (AOf W1.heap.size w2 vs acc) := AOf.below hb2 HAO
        have F2 : Hid (Fr s W1 w2) := Fr.more HFR (hb2.mono z12) (by omega)
        have P2 : Hid (TOn 0 w2 (.slice (some ⟨rb, roff, none⟩) m rcap) p) := TOn.below HPR hb2
        have z2 : wr.heap.size ≤ w2.heap.size := hb2.size
        have y0 := (hb2.cell (p := ⟨rb, roff + i * 3, none⟩) hrw).trans k0
        have y1 := (hb2.cell (p := ⟨rb, roff + (i * 3 + 1), none⟩) hrw).trans k1
        have y2 := (hb2.cell (p := ⟨rb, roff + (i * 3 + 2), none⟩) hrw).trans k2
        have d0 := (hb2.cell (p := ⟨w.heap.size, 0, none⟩) hwz).trans b0
        have d1 := (hb2.cell (p := ⟨w.heap.size, 1, none⟩) hwz).trans b1
        have d2 := (hb2.cell (p := ⟨w.heap.size, 2, none⟩) hwz).trans b2
        clear hb2 HST HOWN HAO HPR k0 k1 k2 b0 b1 b2 hc3
        by_cases hsl : tc = 16
        · rw [show decide ((⟨tc, th, ts⟩ : Tk).c = 16) = true from decide_eq_true hsl]
          have HSJ : Hid (∀ (j : Nat) W, j < m → Below w2.heap.size w2 W → Calls Try.prog 103 #[macV (.slice (some ⟨rb, roff, none⟩) m rcap) sl vb, .int .i64 (j : Int)] W fun e w' => e = .returned (.bool (!noSlot (p.getD j Tk.none))) ∧ Below W.heap.size W w') := by
            intro j W hj hW
            have hjl : j < p.length := by have := show m = p.length from HPL; omega
            have q := l4Slot_any (i := j) (sl := sl) (vb := vb) (TRow.below (TOn.row P2) hW) (by have := show m = p.length from HPL; omega) (by omega)
            rw [show decide (j < p.length ∧ (p.getD j Tk.none).c = 16) = !noSlot (p.getD j Tk.none) by simp [hjl, noSlot]] at q
            exact q
          have B22 : Hid (Below w2.heap.size w2 w2) := Below.refl _ _
          have hw2z : w.heap.size < w2.heap.size := by omega
          clear HSL y0 y1 y2
          go_wp2_with fail
          have HI1 : Hid (i + 1 ≤ m) := by show _ ≤ _; omega
          go_loopw [8] (fun ev wx => ∃ q : Nat, ev = .int .i64 (q : Int) ∧ i + 1 ≤ q ∧ q ≤ m ∧ Below w2.heap.size w2 wx ∧ Hid (∀ j, i + 1 ≤ j → j < q → noSlot (p.getD j Tk.none) = true)) (fun ev _ => m - (intOf ev).toNat)
          case atStart => exact ⟨i + 1, by go_num, Nat.le_refl _, HI1, B22, fun j hj hj2 => by omega⟩
          case round =>
            obtain ⟨q, rfl, hiq, hqm, hbx, HAL⟩ := hrel
            have HBX : Hid (Below w2.heap.size w2 wr) := hbx
            have hzx : w2.heap.size ≤ wr.heap.size := hbx.size
            have e0 := (hbx.cell (p := ⟨w.heap.size, 0, none⟩) hw2z).trans d0
            have e1 := (hbx.cell (p := ⟨w.heap.size, 1, none⟩) hw2z).trans d1
            have e2 := (hbx.cell (p := ⟨w.heap.size, 2, none⟩) hw2z).trans d2
            have hwzx : w.heap.size < wr.heap.size := by omega
            clear hbx d0 d1 d2
            by_cases hqm2 : q < m
            · have hlt : (q : Int) < (m : Int) := by omega
              obtain ⟨bq, hbq⟩ : ∃ b, b = noSlot (p.getD q Tk.none) := ⟨_, rfl⟩
              have HSD : Hid (Calls Try.prog 103 #[macV (.slice (some ⟨rb, roff, none⟩) m rcap) sl vb, .int .i64 (q : Int)] wr fun e w' => e = .returned (.bool (!bq)) ∧ Below wr.heap.size wr w') := by rw [hbq]; exact HSJ _ _ hqm2 HBX
              have HBQ : Hid (bq = noSlot (p.getD q Tk.none)) := hbq
              clear hbq
              go_wp2_with fail
              refine HSD.mono ?_
              rintro e w3 ⟨rfl, hb3⟩
              have B3 : Hid (Below w2.heap.size w2 w3) := below_more HBX hb3 hzx
              have k0 := (hb3.cell (p := ⟨w.heap.size, 0, none⟩) hwzx).trans e0
              have k1 := (hb3.cell (p := ⟨w.heap.size, 1, none⟩) hwzx).trans e1
              have k2 := (hb3.cell (p := ⟨w.heap.size, 2, none⟩) hwzx).trans e2
              have hwz3 : w.heap.size < w3.heap.size := by have := hb3.size; omega
              clear hb3 e0 e1 e2 HSD
              cases bq
              · have HEX : Hid (q < m → noSlot (p.getD q Tk.none) = false) := fun _ => (show false = _ from HBQ).symm
                have BX : Hid (Below w2.heap.size w2 w3) := B3
                have SX : Hid (St w3 s r 0) := St.fr S2 BX
                have OX : Hid (w3.ownsRow W1.heap.size 32 1 (.slice ao nf ocap) nf vs) := own1_below O2 BX
                have AX : Hid (AOf W1.heap.size w3 vs acc) := AOf.below BX A2
                have zW2 : W1.heap.size ≤ w2.heap.size := F2.size
                have FX : Hid (Fr s W1 w3) := Fr.more F2 (Below.mono BX zW2) (by omega)
                have PX : Hid (TOn 0 w3 (.slice (some ⟨rb, roff, none⟩) m rcap) p) := TOn.below P2 BX
                have zX : W1.heap.size ≤ w3.heap.size := by have := Below.size BX; omega
                have HEND : Hid (((p.drop (i + 1)).takeWhile noSlot).length = q - (i + 1)) := by
                  have hpm := show m = p.length from HPL
                  refine tw_len _ _ (by rw [List.length_drop]; omega) (fun j hj => ?_) (fun hd => ?_)
                  · rw [show (p.drop (i + 1)).getD j Tk.none = p.getD (i + 1 + j) Tk.none by simp [List.getD]]
                    exact HAL _ (by omega) (by omega)
                  · rw [show (p.drop (i + 1)).getD (q - (i + 1)) Tk.none = p.getD q Tk.none by simp [List.getD]; rw [show i + 1 + (q - (i + 1)) = q by omega]]
                    rw [List.length_drop] at hd
                    exact HEX (by omega)
                clear HAL HEX S2 O2 A2 F2 P2 HSJ
                by_cases hq1 : q = i + 1
                · have hqe : (q : Int) = (i : Int) + 1 := by omega
                  have hqb : ((q : Int) == (i : Int) + 1) = true := by rw [hqe]; exact beq_self_eq_true _
                  have HQ1 : Hid (q = i + 1) := hq1
                  clear hqe hq1
                  go_wp2_with fail
                  refine (l4Plain_any SX (by omega)).mono ?_
                  rintro e w4 ⟨v4, n4, xs, rfl, hown4, hne4, hst4, hcd4, hf4⟩
                  obtain ⟨va, vc, rfl, _⟩ := own_shape hown4
                  have F4 : Hid (Fr s W1 w4) := FX.trans hf4
                  have z4 : W1.heap.size ≤ w4.heap.size := F4.size
                  have O4 : Hid (w4.ownsRow W1.heap.size 32 1 (.slice ao nf ocap) nf vs) := own1_fr OX hf4 (by omega)
                  have A4 : Hid (AOf W1.heap.size w4 vs acc) := AOf.fr hf4 (by omega) AX
                  have S4 : Hid (St w4 s (plain r).2.2 (plain r).1 ∧ ((plain r).1 = 0 → xs = (plain r).2.1)) := ⟨hst4, hcd4⟩
                  have V4 : Hid (w4.ownsRow W1.heap.size 31 3 (.slice va n4 vc) n4 (flat xs) ∧ Value.slice va n4 vc ≠ .slice none 0 0) := ⟨own_mono hown4 zX, hne4⟩
                  clear hown4 hne4 hst4 hcd4 hf4 SX OX AX FX PX
                  go_wp2_with (at_builtin; refine wpList_append_own _ rfl _ _ 57 rfl W1.heap.size 32 i0 _ 1 24 Try.underlying57 hi hz0 hz1' hz2 rfl (by decide) _ _ _ rfl (World.ownsRow.alloc O4 _) ⟨w4.heap.size, 0, none⟩ 1 1 [.slice va n4 vc] rfl ?xa1 ?xa2 ?xa3 ?xa4 ?xa5 ?xa6 ?_)
                  case xa1 => rfl
                  case xa2 =>
                    intro j u hj
                    match j, hj with
                    | 0, hj => simp at hj; subst hj; simp [Addr.add]
                  case xa3 => intro u hu; simp at hu; subst hu; rfl
                  case xa4 => unfold maxLen; omega
                  case xa5 => omega
                  case xa6 => simp; omega
                  intro v' w5 hown' hgrow hnil'
                  have B5 : Below W1.heap.size w4 w5 := ((Below.refl _ _).alloc z4 _).grown hgrow (by simp; omega) (fun r hr => (World.ownsRow.lt O4 r hr).1)
                  have K5 := grown_keep O4 hgrow
                  obtain ⟨ra2, rcap2, rfl⟩ := own1_shape hown'
                  rw [← hz1] at hown'
                  have NEXT : Hid (AInv W1 s m M p (.slice ra2 (nf + 1) rcap2) (.int .i64 (q : Int)) w5) := by
                    have hqi := show q = i + 1 from HQ1
                    have hxl : xs.length = n4 := by have := V4.1.1; rw [flat_len] at this; omega
                    have hmm : M = _ := (show M = _ from HGT).trans (mat_plain (by exact hsl) (by have := show _ = _ from HEND; omega))
                    by_cases hc0 : (plain r).1 = 0
                    · rw [if_pos hc0] at hmm
                      refine ⟨vs ++ [.slice va n4 vc], acc ++ [(plain r).2.1], (plain r).2.2, 0, q, nf + 1, rfl, hqm, hown', fun h => hnil' h, by omega, ?_, by rw [← hc0]; exact St.bel S4.1 (B5.mono (by omega)), Fr.more F4 B5 (by omega), Nat.le_trans (plain_len r) hrl, .inl ⟨rfl, by rw [hmm]; rw [show m + 1 - q = m - i by omega, hqi]⟩⟩
                      rw [← S4.2 hc0]
                      exact AOf.snoc ⟨by rw [hxl]; exact own_kept V4.1 K5, V4.2⟩ _ _ (AOf.keep (fun g cur _ hb => K5 g cur hb) _ _ A4)
                    · rw [if_neg hc0] at hmm
                      exact ⟨vs ++ [.slice va n4 vc], acc ++ [xs], (plain r).2.2, (plain r).1, q, nf + 1, rfl, hqm, hown', fun h => hnil' h, by omega, AOf.snoc ⟨by rw [hxl]; exact own_kept V4.1 K5, V4.2⟩ _ _ (AOf.keep (fun g cur _ hb => K5 g cur hb) _ _ A4), St.bel S4.1 (B5.mono (by omega)), Fr.more F4 B5 (by omega), Nat.le_trans (plain_len r) hrl, .inr ⟨hc0, by rw [hmm], by rw [hmm]⟩⟩
                  clear hown' hgrow hnil' B5 K5
                  go_wp2
                  go_roundw
                  case rel => exact NEXT
                  case measure => simp [intOf]; omega
                · have hq2 : i + 1 < q := by omega
                  have hqb : ((q : Int) == (i : Int) + 1) = false := beq_eq_false_iff_ne.2 (by omega)
                  have hql : (i : Int) + 1 ≤ (q : Int) := by omega
                  have hqc : (q : Int) ≤ (rcap : Int) := by
                    have : m ≤ rcap := by obtain ⟨_, _, _, e, hcc, _⟩ := PX; simp at e; rw [← e.2.1, ← e.2.2] at hcc; exact hcc
                    omega
                  obtain ⟨row, hrow⟩ : ∃ row, row = (p.drop (i + 1)).take (q - (i + 1)) := ⟨_, rfl⟩
                  have PQ : Hid (TOn 0 w3 (.slice (some ⟨rb, roff + (i + 1) * 3, none⟩) (q - (i + 1)) (rcap - (i + 1))) row) := by rw [hrow]; exact TOn.take (TOn.drop PX (k := i + 1) (by omega)) (k := q - (i + 1)) (by omega)
                  have HROWQ : Hid (row = (p.drop (i + 1)).take (q - (i + 1))) := hrow
                  have HQ2 : Hid (i + 1 < q) := hq2
                  clear hrow
                  go_wp2_with fail
                  refine (l4Until_any (St.fr SX (below1 _ _)) (by omega) (TOn.below PQ (below1 _ _)) hrb (by omega) (by omega)).mono ?_
                  rintro e w4 ⟨v4, xs, rfl, hon4, hxl4, hst4, hcd4, hf4⟩
                  obtain ⟨ub, uoff, un, uc, rfl⟩ := hon4.shape
                  have hun : un = xs.length := by obtain ⟨_, _, _, e, _⟩ := hon4; simp at e; exact e.2.1
                  have E4 : Hid (w4.ownsRow w3.heap.size 31 3 (.slice (some ⟨w3.heap.size, 0, none⟩) 0 0) 0 []) := own_fr (World.ownsRow_made w3 #[] 0 (Nat.le_refl _) (Nat.zero_le _) (by simp)) hf4 (by omega)
                  have F4 : Hid (Fr s W1 w4) := (Fr.more FX ((below1 _ _).mono zX) (by omega)).trans hf4
                  have z4 : w3.heap.size < w4.heap.size := by have := hf4.size; simp at this; omega
                  have K4 : Hid (∀ g, W1.heap.size ≤ g → g < w3.heap.size → w4.heap[g]? = w3.heap[g]?) := fun g hg hg2 => (hf4.2.block g (by omega) (by simp; omega)).trans ((below1 _ _).block g hg2)
                  have S4 : Hid (St w4 s (unt row 0 [] r).2.2 (unt row 0 [] r).1 ∧ ((unt row 0 [] r).1 = 0 → xs = (unt row 0 [] r).2.1) ∧ un = xs.length) := ⟨hst4, hcd4, hun⟩
                  rw [← hun] at hxl4
                  have HC4 : Hid (∀ j u, (flat xs)[j]? = some u → w4.cell? ⟨ub, uoff + j, none⟩ = some u) := by
                    obtain ⟨b2, off2, cap2, e, _, _, _, hcc⟩ := hon4
                    simp at e
                    obtain ⟨⟨rfl, rfl⟩, _, rfl⟩ := e
                    exact hcc
                  clear hst4 hcd4 hf4 hon4 hun SX FX PX PQ
                  go_wp2_with (at_builtin; refine wpList_append_own _ rfl _ _ 32 rfl w3.heap.size 31 j0 _ 3 32 Try.underlying32 hj hy0 hy1 hy2 rfl (by decide) _ _ _ rfl E4 ⟨ub, uoff, none⟩ un uc (flat xs) rfl ?xb1 ?xb2 ?xb3 ?xb4 ?xb5 ?xb6 ?_)
                  case xb1 => rw [flat_len, ← S4.2.2]
                  case xb2 =>
                    intro j u hj
                    rw [Addr.add_lit]
                    exact HC4 j u hj
                  case xb3 => exact flat_one xs
                  case xb4 => unfold maxLen; omega
                  case xb5 => omega
                  case xb6 => omega
                  intro v5 w5 hown5 hgrow5 hnil5
                  have B5 : Below w3.heap.size w4 w5 := (Below.refl _ _).grown hgrow5 (by omega) (fun r hr => (World.ownsRow.lt E4 r hr).1)
                  obtain ⟨va, vc, rfl, _⟩ := own_shape hown5
                  have F5 : Hid (Fr s W1 w5) := Fr.more F4 (B5.mono zX) (by omega)
                  have z5 : W1.heap.size ≤ w5.heap.size := F5.size
                  have K5 : ∀ g, W1.heap.size ≤ g → g < w3.heap.size → w5.heap[g]? = w3.heap[g]? := fun g hg hg2 => (B5.block g hg2).trans (K4 g hg hg2)
                  have O5 : Hid (w5.ownsRow W1.heap.size 32 1 (.slice ao nf ocap) nf vs) := own1_keep OX K5
                  have A5 : Hid (AOf W1.heap.size w5 vs acc) := AOf.keep (fun g cur hg hb => K5 g hg (Array.getElem?_eq_some_iff.1 hb).1) _ _ AX
                  have S5 : Hid (St w5 s (unt row 0 [] r).2.2 (unt row 0 [] r).1 ∧ ((unt row 0 [] r).1 = 0 → xs = (unt row 0 [] r).2.1)) := ⟨St.bel S4.1 (B5.mono (by omega)), S4.2.1⟩
                  have V5 : Hid (w5.ownsRow W1.heap.size 31 3 (.slice va un vc) un (flat xs) ∧ Value.slice va un vc ≠ .slice none 0 0) := ⟨own_mono hown5 zX, hnil5⟩
                  clear hown5 hgrow5 hnil5 B5 K5 OX AX E4 K4 HC4 F4
                  go_wp2_with (at_builtin; refine wpList_append_own _ rfl _ _ 57 rfl W1.heap.size 32 i0 _ 1 24 Try.underlying57 hi hz0 hz1' hz2 rfl (by decide) _ _ _ rfl (World.ownsRow.alloc O5 _) ⟨w5.heap.size, 0, none⟩ 1 1 [.slice va un vc] rfl ?xc1 ?xc2 ?xc3 ?xc4 ?xc5 ?xc6 ?_)
                  case xc1 => rfl
                  case xc2 =>
                    intro j u hj
                    match j, hj with
                    | 0, hj => simp at hj; subst hj; simp [Addr.add]
                  case xc3 => intro u hu; simp at hu; subst hu; rfl
                  case xc4 => unfold maxLen; omega
                  case xc5 => omega
                  case xc6 => simp; omega
                  intro v' w6 hown' hgrow hnil'
                  have B6 : Below W1.heap.size w5 w6 := ((Below.refl _ _).alloc z5 _).grown hgrow (by simp; omega) (fun r hr => (World.ownsRow.lt O5 r hr).1)
                  have K6 := grown_keep O5 hgrow
                  obtain ⟨ra2, rcap2, rfl⟩ := own1_shape hown'
                  rw [← hz1] at hown'
                  have NEXT : Hid (AInv W1 s m M p (.slice ra2 (nf + 1) rcap2) (.int .i64 (q : Int)) w6) := by
                    have hqi := show i + 1 < q from HQ2
                    have hpm := show m = p.length from HPL
                    have hxl : xs.length = un := by have := V5.1.1; rw [flat_len] at this; omega
                    have hmm : M = _ := (show M = _ from HGT).trans (mat_until (by exact hsl) (show _ = _ from HEND) (by omega))
                    rw [← show row = _ from HROWQ] at hmm
                    by_cases hc0 : (unt row 0 [] r).1 = 0
                    · rw [if_pos hc0, List.drop_drop, show i + 1 + (q - (i + 1)) = q by omega, mat_fuel (m - i) (m + 1 - q) _ _ _ (by rw [List.length_drop]; omega) (by rw [List.length_drop]; omega)] at hmm
                      refine ⟨vs ++ [.slice va un vc], acc ++ [(unt row 0 [] r).2.1], (unt row 0 [] r).2.2, 0, q, nf + 1, rfl, hqm, hown', fun h => hnil' h, by omega, ?_, by have S6 := St.bel S5.1 (B6.mono (by omega)); rw [hc0] at S6; exact S6, Fr.more F5 B6 (by omega), Nat.le_trans (unt_len _ _ _ _) hrl, .inl ⟨rfl, hmm⟩⟩
                      rw [← S5.2 hc0]
                      exact AOf.snoc ⟨by rw [hxl]; exact own_kept V5.1 K6, V5.2⟩ _ _ (AOf.keep (fun g cur _ hb => K6 g cur hb) _ _ A5)
                    · rw [if_neg hc0] at hmm
                      exact ⟨vs ++ [.slice va un vc], acc ++ [xs], (unt row 0 [] r).2.2, (unt row 0 [] r).1, q, nf + 1, rfl, hqm, hown', fun h => hnil' h, by omega, AOf.snoc ⟨by rw [hxl]; exact own_kept V5.1 K6, V5.2⟩ _ _ (AOf.keep (fun g cur _ hb => K6 g cur hb) _ _ A5), St.bel S5.1 (B6.mono (by omega)), Fr.more F5 B6 (by omega), Nat.le_trans (unt_len _ _ _ _) hrl, .inr ⟨hc0, by rw [hmm], by rw [hmm]⟩⟩
                  clear hown' hgrow hnil' B6 K6
                  go_wp2
                  go_roundw
                  case rel => exact NEXT
                  case measure => simp [intOf]; omega
              · go_wp2
                go_roundw
                case rel => exact ⟨q + 1, by go_num, by omega, by omega, B3, fun j hj hj2 => by rcases Nat.lt_or_ge j q with h | h; exact HAL j hj h; rw [show j = q by omega]; exact (show true = _ from HBQ).symm⟩
                case measure => simp [intOf]; omega
            · have hnlt : ¬ (q : Int) < (m : Int) := by omega
              have HEX : Hid (q < m → noSlot (p.getD q Tk.none) = false) := fun h => absurd h hqm2
              have BX : Hid (Below w2.heap.size w2 wr) := HBX
              have SX : Hid (St wr s r 0) := St.fr S2 BX
              have OX : Hid (wr.ownsRow W1.heap.size 32 1 (.slice ao nf ocap) nf vs) := own1_below O2 BX
              have AX : Hid (AOf W1.heap.size wr vs acc) := AOf.below BX A2
              have zW2 : W1.heap.size ≤ w2.heap.size := F2.size
              have FX : Hid (Fr s W1 wr) := Fr.more F2 (Below.mono BX zW2) (by omega)
              have PX : Hid (TOn 0 wr (.slice (some ⟨rb, roff, none⟩) m rcap) p) := TOn.below P2 BX
              have zX : W1.heap.size ≤ wr.heap.size := by have := Below.size BX; omega
              have HEND : Hid (((p.drop (i + 1)).takeWhile noSlot).length = q - (i + 1)) := by
                have hpm := show m = p.length from HPL
                refine tw_len _ _ (by rw [List.length_drop]; omega) (fun j hj => ?_) (fun hd => ?_)
                · rw [show (p.drop (i + 1)).getD j Tk.none = p.getD (i + 1 + j) Tk.none by simp [List.getD]]
                  exact HAL _ (by omega) (by omega)
                · rw [show (p.drop (i + 1)).getD (q - (i + 1)) Tk.none = p.getD q Tk.none by simp [List.getD]; rw [show i + 1 + (q - (i + 1)) = q by omega]]
                  rw [List.length_drop] at hd
                  exact HEX (by omega)
              clear HAL HEX S2 O2 A2 F2 P2 HSJ
              by_cases hq1 : q = i + 1
              · have hqe : (q : Int) = (i : Int) + 1 := by omega
                have hqb : ((q : Int) == (i : Int) + 1) = true := by rw [hqe]; exact beq_self_eq_true _
                have HQ1 : Hid (q = i + 1) := hq1
                clear hqe hq1
                go_wp2_with fail
                refine (l4Plain_any SX (by omega)).mono ?_
                rintro e w4 ⟨v4, n4, xs, rfl, hown4, hne4, hst4, hcd4, hf4⟩
                obtain ⟨va, vc, rfl, _⟩ := own_shape hown4
                have F4 : Hid (Fr s W1 w4) := FX.trans hf4
                have z4 : W1.heap.size ≤ w4.heap.size := F4.size
                have O4 : Hid (w4.ownsRow W1.heap.size 32 1 (.slice ao nf ocap) nf vs) := own1_fr OX hf4 (by omega)
                have A4 : Hid (AOf W1.heap.size w4 vs acc) := AOf.fr hf4 (by omega) AX
                have S4 : Hid (St w4 s (plain r).2.2 (plain r).1 ∧ ((plain r).1 = 0 → xs = (plain r).2.1)) := ⟨hst4, hcd4⟩
                have V4 : Hid (w4.ownsRow W1.heap.size 31 3 (.slice va n4 vc) n4 (flat xs) ∧ Value.slice va n4 vc ≠ .slice none 0 0) := ⟨own_mono hown4 zX, hne4⟩
                clear hown4 hne4 hst4 hcd4 hf4 SX OX AX FX PX
                go_wp2_with (at_builtin; refine wpList_append_own _ rfl _ _ 57 rfl W1.heap.size 32 i0 _ 1 24 Try.underlying57 hi hz0 hz1' hz2 rfl (by decide) _ _ _ rfl (World.ownsRow.alloc O4 _) ⟨w4.heap.size, 0, none⟩ 1 1 [.slice va n4 vc] rfl ?ya1 ?ya2 ?ya3 ?ya4 ?ya5 ?ya6 ?_)
                case ya1 => rfl
                case ya2 =>
                  intro j u hj
                  match j, hj with
                  | 0, hj => simp at hj; subst hj; simp [Addr.add]
                case ya3 => intro u hu; simp at hu; subst hu; rfl
                case ya4 => unfold maxLen; omega
                case ya5 => omega
                case ya6 => simp; omega
                intro v' w5 hown' hgrow hnil'
                have B5 : Below W1.heap.size w4 w5 := ((Below.refl _ _).alloc z4 _).grown hgrow (by simp; omega) (fun r hr => (World.ownsRow.lt O4 r hr).1)
                have K5 := grown_keep O4 hgrow
                obtain ⟨ra2, rcap2, rfl⟩ := own1_shape hown'
                rw [← hz1] at hown'
                have NEXT : Hid (AInv W1 s m M p (.slice ra2 (nf + 1) rcap2) (.int .i64 (q : Int)) w5) := by
                  have hqi := show q = i + 1 from HQ1
                  have hxl : xs.length = n4 := by have := V4.1.1; rw [flat_len] at this; omega
                  have hmm : M = _ := (show M = _ from HGT).trans (mat_plain (by exact hsl) (by have := show _ = _ from HEND; omega))
                  by_cases hc0 : (plain r).1 = 0
                  · rw [if_pos hc0] at hmm
                    refine ⟨vs ++ [.slice va n4 vc], acc ++ [(plain r).2.1], (plain r).2.2, 0, q, nf + 1, rfl, hqm, hown', fun h => hnil' h, by omega, ?_, by rw [← hc0]; exact St.bel S4.1 (B5.mono (by omega)), Fr.more F4 B5 (by omega), Nat.le_trans (plain_len r) hrl, .inl ⟨rfl, by rw [hmm]; rw [show m + 1 - q = m - i by omega, hqi]⟩⟩
                    rw [← S4.2 hc0]
                    exact AOf.snoc ⟨by rw [hxl]; exact own_kept V4.1 K5, V4.2⟩ _ _ (AOf.keep (fun g cur _ hb => K5 g cur hb) _ _ A4)
                  · rw [if_neg hc0] at hmm
                    exact ⟨vs ++ [.slice va n4 vc], acc ++ [xs], (plain r).2.2, (plain r).1, q, nf + 1, rfl, hqm, hown', fun h => hnil' h, by omega, AOf.snoc ⟨by rw [hxl]; exact own_kept V4.1 K5, V4.2⟩ _ _ (AOf.keep (fun g cur _ hb => K5 g cur hb) _ _ A4), St.bel S4.1 (B5.mono (by omega)), Fr.more F4 B5 (by omega), Nat.le_trans (plain_len r) hrl, .inr ⟨hc0, by rw [hmm], by rw [hmm]⟩⟩
                clear hown' hgrow hnil' B5 K5
                go_wp2
                go_roundw
                case rel => exact NEXT
                case measure => simp [intOf]; omega
              · have hq2 : i + 1 < q := by omega
                have hqb : ((q : Int) == (i : Int) + 1) = false := beq_eq_false_iff_ne.2 (by omega)
                have hql : (i : Int) + 1 ≤ (q : Int) := by omega
                have hqc : (q : Int) ≤ (rcap : Int) := by
                  have : m ≤ rcap := by obtain ⟨_, _, _, e, hcc, _⟩ := PX; simp at e; rw [← e.2.1, ← e.2.2] at hcc; exact hcc
                  omega
                obtain ⟨row, hrow⟩ : ∃ row, row = (p.drop (i + 1)).take (q - (i + 1)) := ⟨_, rfl⟩
                have PQ : Hid (TOn 0 wr (.slice (some ⟨rb, roff + (i + 1) * 3, none⟩) (q - (i + 1)) (rcap - (i + 1))) row) := by rw [hrow]; exact TOn.take (TOn.drop PX (k := i + 1) (by omega)) (k := q - (i + 1)) (by omega)
                have HROWQ : Hid (row = (p.drop (i + 1)).take (q - (i + 1))) := hrow
                have HQ2 : Hid (i + 1 < q) := hq2
                clear hrow
                go_wp2_with fail
                refine (l4Until_any (St.fr SX (below1 _ _)) (by omega) (TOn.below PQ (below1 _ _)) hrb (by omega) (by omega)).mono ?_
                rintro e w4 ⟨v4, xs, rfl, hon4, hxl4, hst4, hcd4, hf4⟩
                obtain ⟨ub, uoff, un, uc, rfl⟩ := hon4.shape
                have hun : un = xs.length := by obtain ⟨_, _, _, e, _⟩ := hon4; simp at e; exact e.2.1
                have E4 : Hid (w4.ownsRow wr.heap.size 31 3 (.slice (some ⟨wr.heap.size, 0, none⟩) 0 0) 0 []) := own_fr (World.ownsRow_made wr #[] 0 (Nat.le_refl _) (Nat.zero_le _) (by simp)) hf4 (by omega)
                have F4 : Hid (Fr s W1 w4) := (Fr.more FX ((below1 _ _).mono zX) (by omega)).trans hf4
                have z4 : wr.heap.size < w4.heap.size := by have := hf4.size; simp at this; omega
                have K4 : Hid (∀ g, W1.heap.size ≤ g → g < wr.heap.size → w4.heap[g]? = wr.heap[g]?) := fun g hg hg2 => (hf4.2.block g (by omega) (by simp; omega)).trans ((below1 _ _).block g hg2)
                have S4 : Hid (St w4 s (unt row 0 [] r).2.2 (unt row 0 [] r).1 ∧ ((unt row 0 [] r).1 = 0 → xs = (unt row 0 [] r).2.1) ∧ un = xs.length) := ⟨hst4, hcd4, hun⟩
                rw [← hun] at hxl4
                have HC4 : Hid (∀ j u, (flat xs)[j]? = some u → w4.cell? ⟨ub, uoff + j, none⟩ = some u) := by
                  obtain ⟨b2, off2, cap2, e, _, _, _, hcc⟩ := hon4
                  simp at e
                  obtain ⟨⟨rfl, rfl⟩, _, rfl⟩ := e
                  exact hcc
                clear hst4 hcd4 hf4 hon4 hun SX FX PX PQ
                go_wp2_with (at_builtin; refine wpList_append_own _ rfl _ _ 32 rfl wr.heap.size 31 j0 _ 3 32 Try.underlying32 hj hy0 hy1 hy2 rfl (by decide) _ _ _ rfl E4 ⟨ub, uoff, none⟩ un uc (flat xs) rfl ?yb1 ?yb2 ?yb3 ?yb4 ?yb5 ?yb6 ?_)
                case yb1 => rw [flat_len, ← S4.2.2]
                case yb2 =>
                  intro j u hj
                  rw [Addr.add_lit]
                  exact HC4 j u hj
                case yb3 => exact flat_one xs
                case yb4 => unfold maxLen; omega
                case yb5 => omega
                case yb6 => omega
                intro v5 w5 hown5 hgrow5 hnil5
                have B5 : Below wr.heap.size w4 w5 := (Below.refl _ _).grown hgrow5 (by omega) (fun r hr => (World.ownsRow.lt E4 r hr).1)
                obtain ⟨va, vc, rfl, _⟩ := own_shape hown5
                have F5 : Hid (Fr s W1 w5) := Fr.more F4 (B5.mono zX) (by omega)
                have z5 : W1.heap.size ≤ w5.heap.size := F5.size
                have K5 : ∀ g, W1.heap.size ≤ g → g < wr.heap.size → w5.heap[g]? = wr.heap[g]? := fun g hg hg2 => (B5.block g hg2).trans (K4 g hg hg2)
                have O5 : Hid (w5.ownsRow W1.heap.size 32 1 (.slice ao nf ocap) nf vs) := own1_keep OX K5
                have A5 : Hid (AOf W1.heap.size w5 vs acc) := AOf.keep (fun g cur hg hb => K5 g hg (Array.getElem?_eq_some_iff.1 hb).1) _ _ AX
                have S5 : Hid (St w5 s (unt row 0 [] r).2.2 (unt row 0 [] r).1 ∧ ((unt row 0 [] r).1 = 0 → xs = (unt row 0 [] r).2.1)) := ⟨St.bel S4.1 (B5.mono (by omega)), S4.2.1⟩
                have V5 : Hid (w5.ownsRow W1.heap.size 31 3 (.slice va un vc) un (flat xs) ∧ Value.slice va un vc ≠ .slice none 0 0) := ⟨own_mono hown5 zX, hnil5⟩
                clear hown5 hgrow5 hnil5 B5 K5 OX AX E4 K4 HC4 F4
                go_wp2_with (at_builtin; refine wpList_append_own _ rfl _ _ 57 rfl W1.heap.size 32 i0 _ 1 24 Try.underlying57 hi hz0 hz1' hz2 rfl (by decide) _ _ _ rfl (World.ownsRow.alloc O5 _) ⟨w5.heap.size, 0, none⟩ 1 1 [.slice va un vc] rfl ?yc1 ?yc2 ?yc3 ?yc4 ?yc5 ?yc6 ?_)
                case yc1 => rfl
                case yc2 =>
                  intro j u hj
                  match j, hj with
                  | 0, hj => simp at hj; subst hj; simp [Addr.add]
                case yc3 => intro u hu; simp at hu; subst hu; rfl
                case yc4 => unfold maxLen; omega
                case yc5 => omega
                case yc6 => simp; omega
                intro v' w6 hown' hgrow hnil'
                have B6 : Below W1.heap.size w5 w6 := ((Below.refl _ _).alloc z5 _).grown hgrow (by simp; omega) (fun r hr => (World.ownsRow.lt O5 r hr).1)
                have K6 := grown_keep O5 hgrow
                obtain ⟨ra2, rcap2, rfl⟩ := own1_shape hown'
                rw [← hz1] at hown'
                have NEXT : Hid (AInv W1 s m M p (.slice ra2 (nf + 1) rcap2) (.int .i64 (q : Int)) w6) := by
                  have hqi := show i + 1 < q from HQ2
                  have hpm := show m = p.length from HPL
                  have hxl : xs.length = un := by have := V5.1.1; rw [flat_len] at this; omega
                  have hmm : M = _ := (show M = _ from HGT).trans (mat_until (by exact hsl) (show _ = _ from HEND) (by omega))
                  rw [← show row = _ from HROWQ] at hmm
                  by_cases hc0 : (unt row 0 [] r).1 = 0
                  · rw [if_pos hc0, List.drop_drop, show i + 1 + (q - (i + 1)) = q by omega, mat_fuel (m - i) (m + 1 - q) _ _ _ (by rw [List.length_drop]; omega) (by rw [List.length_drop]; omega)] at hmm
                    refine ⟨vs ++ [.slice va un vc], acc ++ [(unt row 0 [] r).2.1], (unt row 0 [] r).2.2, 0, q, nf + 1, rfl, hqm, hown', fun h => hnil' h, by omega, ?_, by have S6 := St.bel S5.1 (B6.mono (by omega)); rw [hc0] at S6; exact S6, Fr.more F5 B6 (by omega), Nat.le_trans (unt_len _ _ _ _) hrl, .inl ⟨rfl, hmm⟩⟩
                    rw [← S5.2 hc0]
                    exact AOf.snoc ⟨by rw [hxl]; exact own_kept V5.1 K6, V5.2⟩ _ _ (AOf.keep (fun g cur _ hb => K6 g cur hb) _ _ A5)
                  · rw [if_neg hc0] at hmm
                    exact ⟨vs ++ [.slice va un vc], acc ++ [xs], (unt row 0 [] r).2.2, (unt row 0 [] r).1, q, nf + 1, rfl, hqm, hown', fun h => hnil' h, by omega, AOf.snoc ⟨by rw [hxl]; exact own_kept V5.1 K6, V5.2⟩ _ _ (AOf.keep (fun g cur _ hb => K6 g cur hb) _ _ A5), St.bel S5.1 (B6.mono (by omega)), Fr.more F5 B6 (by omega), Nat.le_trans (unt_len _ _ _ _) hrl, .inr ⟨hc0, by rw [hmm], by rw [hmm]⟩⟩
                clear hown' hgrow hnil' B6 K6
                go_wp2
                go_roundw
                case rel => exact NEXT
                case measure => simp [intOf]; omega
        · rw [show decide ((⟨tc, th, ts⟩ : Tk).c = 16) = false from decide_eq_false hsl]
          go_wp2_with fail
          refine (l4Take_any S2 (by omega)).mono ?_
          rintro e w3 ⟨rfl, hs3, hf3⟩
          have O3 : Hid (w3.ownsRow W1.heap.size 32 1 (.slice ao nf ocap) nf vs) := own1_fr O2 hf3 (by omega)
          have A3 : Hid (AOf W1.heap.size w3 vs acc) := AOf.fr hf3 (by omega) A2
          have F3 : Hid (Fr s W1 w3) := F2.trans hf3
          have z3 : W1.heap.size ≤ w3.heap.size := F3.size
          have x0 := (hf3.1.cell (p := ⟨rb, roff + i * 3, none⟩) hrb).trans y0
          have x1 := (hf3.1.cell (p := ⟨rb, roff + (i * 3 + 1), none⟩) hrb).trans y1
          have x2 := (hf3.1.cell (p := ⟨rb, roff + (i * 3 + 2), none⟩) hrb).trans y2
          have c0 : w3.cell? ⟨w.heap.size, 0, none⟩ = some (.slice (some ⟨rb, roff, none⟩) m rcap) := (World.cell?_of_block (w := w2) (a := ⟨w.heap.size, 0, none⟩) (hf3.2.block w.heap.size (by omega) (by omega))).trans d0
          have hz3 : w.heap.size < w3.heap.size := by omega
          have hrz3 : rb < w3.heap.size := by omega
          rw [← Nat.add_assoc] at x1 x2
          clear y0 y1 y2 d0 d1 d2
          have hrc : r = [] ∨ ∃ u r', r = u :: r' := by
            cases r with
            | nil => exact .inl rfl
            | cons u r' => exact .inr ⟨u, r', rfl⟩
          rcases hrc with rfl | ⟨u, r', rfl⟩
          · have S3 : Hid (St w3 s [] 1) := hs3
            have HMM : Hid (M.1 = 1 ∧ M.2.2 = []) := by rw [show M = _ from HGT, mat_end (by exact hsl)]; exact ⟨rfl, rfl⟩
            have cc := St.cell hs3
            rw [show tkC ([] : List Tk) 0 = 1 from rfl] at cc
            have hsz3 : s < w3.heap.size := by omega
            rw [show (tkT [] 0).v = tokV 0 0 ByteArray.empty from rfl]
            clear hs3 hf3
            have NEXT : Hid (AInv W1 s m M p (.slice ao nf ocap) (.int .i64 ((i + 1 : Nat) : Int)) ((w3.alloc (.cells #[.int .i64 0, .int .i64 0, .string ByteArray.empty] 31)).drew)) := ⟨vs, acc, [], 1, i + 1, nf, rfl, by omega, own1_below O3 (below1 _ _).drew, HNE, by omega, AOf.below (below1 _ _).drew A3, St.fr S3 (below1 _ _).drew, Fr.more F3 ((below1 _ _).drew.mono z3) (by omega), by simp, .inr ⟨by decide, HMM.1, HMM.2⟩⟩
            go_wp2
            go_region
            all_goals
              go_wp2
              go_roundw
              case rel => exact NEXT
              case measure => simp [intOf]; omega
          · have h3 : tkC (u :: r') 0 = 0 := by simp [tkC]
            rw [h3] at hs3
            have S3 : Hid (St w3 s r' 0) := hs3
            have cc := St.cell hs3
            have hsz3 : s < w3.heap.size := by omega
            clear h3 hs3 hf3
            obtain ⟨uc, uh, us⟩ := u
            rw [show (tkT (⟨uc, uh, us⟩ :: r') 0).v = tokV uc uh us from rfl]
            by_cases e0 : uc = tc
            · by_cases e1 : uh = th
              · by_cases e2 : us.toList = ts.toList
                · subst e0
                  subst e1
                  have HMM : Hid (M = mat (m - i) (p.drop (i + 1)) r' acc) := by show M = _; rw [show M = _ from HGT, mat_on (by exact hsl) (by simp [tkEq, e2])]
                  have NEXT : Hid (AInv W1 s m M p (.slice ao nf ocap) (.int .i64 ((i + 1 : Nat) : Int)) ((w3.alloc (.cells #[.int .i64 uc, .int .i64 uh, .string us] 31)).drew)) := ⟨vs, acc, r', 0, i + 1, nf, rfl, by omega, own1_below O3 (below1 _ _).drew, HNE, by omega, AOf.below (below1 _ _).drew A3, St.fr S3 (below1 _ _).drew, Fr.more F3 ((below1 _ _).drew.mono z3) (by omega), by simp at hrl; omega, .inl ⟨rfl, by rw [show m + 1 - (i + 1) = m - i by omega]; exact HMM⟩⟩
                  go_wp2
                  go_region
                  all_goals
                    go_wp2
                    go_roundw
                    case rel => exact NEXT
                    case measure => simp [intOf]; omega
                · have HMM : Hid (M.1 = 2 ∧ M.2.2 = r') := by rw [show M = _ from HGT, mat_no (by exact hsl) (by simp [tkEq, e2])]; exact ⟨rfl, rfl⟩
                  go_wp2_with fail
                  go_region
                  go_wp2_with fail
                  refine (l4Err_st (St.fr S3 (below1 _ _).drew) 2).mono ?_
                  rintro e w4 ⟨rfl, hs4, hf4⟩
                  have f4 : Fr s W1 w4 := (Fr.more F3 ((below1 _ _).drew.mono z3) (by omega)).trans hf4
                  have NEXT : Hid (AInv W1 s m M p (.slice ao nf ocap) (.int .i64 ((i + 1 : Nat) : Int)) w4) := ⟨vs, acc, r', 2, i + 1, nf, rfl, by omega, own1_fr (own1_below O3 (below1 _ _).drew) hf4 (by omega), HNE, by omega, AOf.fr hf4 (by omega) (AOf.below (below1 _ _).drew A3), hs4, f4, by simp at hrl; omega, .inr ⟨by decide, HMM.1, HMM.2⟩⟩
                  clear hs4 hf4 f4
                  go_wp2
                  go_roundw
                  case rel => exact NEXT
                  case measure => simp [intOf]; omega
              · have HMM : Hid (M.1 = 2 ∧ M.2.2 = r') := by rw [show M = _ from HGT, mat_no (by exact hsl) (by simp [tkEq, e1])]; exact ⟨rfl, rfl⟩
                go_wp2_with fail
                go_region
                go_wp2_with fail
                refine (l4Err_st (St.fr S3 (below1 _ _).drew) 2).mono ?_
                rintro e w4 ⟨rfl, hs4, hf4⟩
                have f4 : Fr s W1 w4 := (Fr.more F3 ((below1 _ _).drew.mono z3) (by omega)).trans hf4
                have NEXT : Hid (AInv W1 s m M p (.slice ao nf ocap) (.int .i64 ((i + 1 : Nat) : Int)) w4) := ⟨vs, acc, r', 2, i + 1, nf, rfl, by omega, own1_fr (own1_below O3 (below1 _ _).drew) hf4 (by omega), HNE, by omega, AOf.fr hf4 (by omega) (AOf.below (below1 _ _).drew A3), hs4, f4, by simp at hrl; omega, .inr ⟨by decide, HMM.1, HMM.2⟩⟩
                clear hs4 hf4 f4
                go_wp2
                go_roundw
                case rel => exact NEXT
                case measure => simp [intOf]; omega
            · have HMM : Hid (M.1 = 2 ∧ M.2.2 = r') := by rw [show M = _ from HGT, mat_no (by exact hsl) (by simp [tkEq, e0])]; exact ⟨rfl, rfl⟩
              go_wp2_with fail
              go_region
              go_wp2_with fail
              refine (l4Err_st (St.fr S3 (below1 _ _).drew) 2).mono ?_
              rintro e w4 ⟨rfl, hs4, hf4⟩
              have f4 : Fr s W1 w4 := (Fr.more F3 ((below1 _ _).drew.mono z3) (by omega)).trans hf4
              have NEXT : Hid (AInv W1 s m M p (.slice ao nf ocap) (.int .i64 ((i + 1 : Nat) : Int)) w4) := ⟨vs, acc, r', 2, i + 1, nf, rfl, by omega, own1_fr (own1_below O3 (below1 _ _).drew) hf4 (by omega), HNE, by omega, AOf.fr hf4 (by omega) (AOf.below (below1 _ _).drew A3), hs4, f4, by simp at hrl; omega, .inr ⟨by decide, HMM.1, HMM.2⟩⟩
              clear hs4 hf4 f4
              go_wp2
              go_roundw
              case rel => exact NEXT
              case measure => simp [intOf]; omega
      · have hki : ¬ (i : Int) < (m : Int) := by omega
        obtain rfl : i = m := by omega
        have HD := DONE (by
          rw [hg]
          have e : i + 1 - i = 1 := by omega
          rw [e, List.drop_eq_nil_of_le (by have := show i = p.length from HPL; omega)]
          exact ⟨rfl, rfl, fun _ => rfl⟩)
        have HD2 : Hid (ArgR w wr s M (.slice ao nf ocap)) := HD
        clear DONE hg HD
        go_wp2
        go_ret
        exact ⟨_, rfl, HD2⟩
    · have HD := DONE ⟨hg2, hg1, fun h => absurd h hc0⟩
      have hcb : (c == 0) = false := beq_eq_false_iff_ne.2 hc0
      have HD2 : Hid (ArgR w wr s M (.slice ao nf ocap)) := HD
      clear DONE hg1 hg2 HD
      by_cases hkn : i < m
      · have hki : (i : Int) < (m : Int) := by omega
        go_wp2
        go_ret
        exact ⟨_, rfl, HD2⟩
      · have hki : ¬ (i : Int) < (m : Int) := by omega
        go_wp2
        go_ret
        exact ⟨_, rfl, HD2⟩
end Go.Proofs.Ytbceblgnjicdcaa
