import Derived.Test.YtbpidcfoldkhgaaGreatTss
import Derived.Laws.BytesArg
import Derived.Deep.RegionWith
namespace Go.Proofs.YtbpidcfoldkhgaaGreat
open Go.RowKit
set_option linter.unusedVariables false
set_option linter.unusedSimpArgs false
def flat : List Tk → List Value
 | [] => []
 | t :: ts => .int .i64 t.c :: .int .i64 t.h :: .string t.s :: flat ts
theorem flat_len : ∀ ts : List Tk, (flat ts).length = ts.length * 3
 | [] => rfl
 | t :: ts => by simp only [flat, List.length_cons, flat_len ts]; omega
theorem flat_get : ∀ (ts : List Tk) (i : Nat), i < ts.length → (flat ts)[i * 3]? = some (.int .i64 (ts.getD i Tk.none).c) ∧ (flat ts)[i * 3 + 1]? = some (.int .i64 (ts.getD i Tk.none).h) ∧ (flat ts)[i * 3 + 2]? = some (.string (ts.getD i Tk.none).s)
 | [], i, h => by simp at h
 | t :: ts, 0, h => ⟨rfl, rfl, rfl⟩
 | t :: ts, i + 1, h => by
  simp only [List.length_cons] at h
  obtain ⟨h0, h1, h2⟩ := flat_get ts i (by omega)
  have e : (i + 1) * 3 = i * 3 + 1 + 1 + 1 := by omega
  have e1 : (i + 1) * 3 + 1 = (i * 3 + 1) + 1 + 1 + 1 := by omega
  have e2 : (i + 1) * 3 + 2 = (i * 3 + 2) + 1 + 1 + 1 := by omega
  rw [e1, e2, e]
  simp only [flat, List.getElem?_cons_succ, List.getD_cons_succ]
  exact ⟨h0, h1, h2⟩
theorem flat_take : ∀ (ts : List Tk) (k : Nat), (flat ts).take (k * 3) = flat (ts.take k)
 | [], k => by simp [flat]
 | t :: ts, 0 => rfl
 | t :: ts, k + 1 => by
  have e : (k + 1) * 3 = k * 3 + 1 + 1 + 1 := by omega
  rw [e]
  simp only [flat, List.take_succ_cons, flat_take ts k]
theorem flat_drop : ∀ (ts : List Tk) (k : Nat), (flat ts).drop (k * 3) = flat (ts.drop k)
 | [], k => by simp [flat]
 | t :: ts, 0 => rfl
 | t :: ts, k + 1 => by
  have e : (k + 1) * 3 = k * 3 + 1 + 1 + 1 := by omega
  rw [e]
  simp only [flat, List.drop_succ_cons, flat_drop ts k]
def TOn (lo : Nat) (w : World) (v : Value) (ts : List Tk) : Prop :=
 ∃ b off cap, v = .slice (some ⟨b, off, none⟩) ts.length cap ∧ ts.length ≤ cap ∧ lo ≤ b ∧ b < w.heap.size ∧ ∀ j u, (flat ts)[j]? = some u → w.cell? ⟨b, off + j, none⟩ = some u
def TN (lo : Nat) (w : World) (v : Value) (ts : List Tk) : Prop := (v = .slice none 0 0 ∧ ts = []) ∨ TOn lo w v ts
theorem TOn.row {lo : Nat} {w : World} {v : Value} {ts : List Tk} (h : TOn lo w v ts) : TRow w v ts := by
 obtain ⟨b, off, cap, rfl, hcap, hlo, hb, hc⟩ := h
 refine ⟨_, _, cap, rfl, rfl, fun _ => ⟨b, off, rfl, hb, fun i hi => ?_⟩⟩
 obtain ⟨h0, h1, h2⟩ := flat_get ts i hi
 exact ⟨hc _ _ h0, hc _ _ h1, hc _ _ h2⟩
theorem TOn.inn {lo : Nat} {w : World} {v : Value} {ts : List Tk} (h : TOn lo w v ts) : TIn lo w v ts := by
 refine ⟨h.row, ?_⟩
 obtain ⟨b, off, cap, rfl, hcap, hlo, hb, hc⟩ := h
 intro b2 off2 n2 cap2 e
 simp at e
 omega
theorem TOn.abv {lo : Nat} {w w' : World} {v : Value} {ts : List Tk} (h : TOn lo w v ts) (ha : Abv lo w w') : TOn lo w' v ts := by
 obtain ⟨b, off, cap, rfl, hcap, hlo, hb, hc⟩ := h
 exact ⟨b, off, cap, rfl, hcap, hlo, Nat.lt_of_lt_of_le hb ha.size, fun j u hj => (World.cell?_of_block (w := w) (a := ⟨b, off + j, none⟩) (ha.block b hlo hb)).trans (hc j u hj)⟩
theorem TOn.below {lo : Nat} {w w' : World} {v : Value} {ts : List Tk} (h : TOn lo w v ts) (hb : Below w.heap.size w w') : TOn lo w' v ts := h.abv (Abv.below hb)
theorem TOn.mono {lo lo' : Nat} {w : World} {v : Value} {ts : List Tk} (h : TOn lo w v ts) (hl : lo' ≤ lo) : TOn lo' w v ts := by
 obtain ⟨b, off, cap, rfl, hcap, hlo, hb, hc⟩ := h
 exact ⟨b, off, cap, rfl, hcap, Nat.le_trans hl hlo, hb, hc⟩
theorem TN.row {lo : Nat} {w : World} {v : Value} {ts : List Tk} (h : TN lo w v ts) : TRow w v ts := by
 rcases h with ⟨rfl, rfl⟩ | h
 ·exact ⟨_, _, _, rfl, rfl, fun h => absurd h (Nat.lt_irrefl 0)⟩
 ·exact h.row
theorem TN.below {lo : Nat} {w w' : World} {v : Value} {ts : List Tk} (h : TN lo w v ts) (hb : Below w.heap.size w w') : TN lo w' v ts := by
 rcases h with h | h
 ·exact .inl h
 ·exact .inr (h.below hb)
theorem TOn.take {lo b off n cap : Nat} {w : World} {ts : List Tk} (h : TOn lo w (.slice (some ⟨b, off, none⟩) n cap) ts) {k : Nat} (hk : k ≤ n) : TOn lo w (.slice (some ⟨b, off, none⟩) k cap) (ts.take k) := by
 obtain ⟨b2, off2, cap2, e, hcap, hlo, hb, hc⟩ := h
 simp at e
 obtain ⟨⟨rfl, rfl⟩, rfl, rfl⟩ := e
 refine ⟨b, off, cap, by rw [List.length_take, Nat.min_eq_left hk], by rw [List.length_take]; omega, hlo, hb, fun j u hj => ?_⟩
 rw [← flat_take, List.getElem?_take] at hj
 split at hj
 ·exact hc j u hj
 ·simp at hj
theorem TOn.drop {lo b off n cap : Nat} {w : World} {ts : List Tk} (h : TOn lo w (.slice (some ⟨b, off, none⟩) n cap) ts) {k : Nat} (hk : k ≤ n) : TOn lo w (.slice (some ⟨b, off + k * 3, none⟩) (n - k) (cap - k)) (ts.drop k) := by
 obtain ⟨b2, off2, cap2, e, hcap, hlo, hb, hc⟩ := h
 simp at e
 obtain ⟨⟨rfl, rfl⟩, rfl, rfl⟩ := e
 refine ⟨b, off + k * 3, cap - k, by rw [List.length_drop], by rw [List.length_drop]; omega, hlo, hb, fun j u hj => ?_⟩
 rw [← flat_drop, List.getElem?_drop] at hj
 have := hc _ u hj
 rwa [Nat.add_assoc]
def part (args : List (List Tk)) (t : Tk) : List Tk := if t.c = 16 then args.getD (t.h - 1).toNat [] else [t]
def mtGo (k : Nat) (out : ByteArray) : ByteArray := if h : k = 0 then out else mtGo (k / 10) (strOfNums [48 + (k : Int) % 10] ++ out)
def mtext (k : Nat) : ByteArray := ⟨#[109]⟩ ++ mtGo k ⟨#[]⟩
theorem mtGo_zero (o : ByteArray) : mtGo 0 o = o := by rw [mtGo]; simp
theorem mtGo_step {k : Nat} (h : 0 < k) (o : ByteArray) : mtGo k o = mtGo (k / 10) (strOfNums [48 + (k : Int) % 10] ++ o) := by
 rw [mtGo, dif_neg (by omega)]
theorem conv_one (w : World) (x : Int) : (convert 26 9 (.slice (some ⟨w.heap.size, 0, none⟩) 1 1)).run Tryz.prog (w.alloc (.cells #[.int .u8 x] 5)) = .ok (.string (strOfNums [x])) (w.alloc (.cells #[.int .u8 x] 5)) := by
 refine run_convert_bytes_arg (w.alloc (.cells #[.int .u8 x] 5)) 26 5 Tryz.underlying26 Tryz.underlying5 w.heap.size 0 1 1 [x] rfl ?_ 9 Tryz.underlying9
 intro i hi
 have h0 : i = 0 := by omega
 subst h0
 simp
set_option maxRecDepth 100000 in
set_option maxHeartbeats 2000000 in
theorem markText_any (k : Nat) (hk : 0 < k) (hk2 : k ≤ 4611686018427387904) (w : World) : Calls Tryz.prog 83 #[.int .i64 (k : Int)] w fun e w' => e = .returned (.string (mtext k)) ∧ Below w.heap.size w w' := by
 have h1 : ¬ (k : Int) ≤ 0 := by omega
 obtain ⟨S, hS⟩ : ∃ S, S = mtext k := ⟨_, rfl⟩
 rw [← hS]
 have HS : Hid (S = mtext k) := hS
 clear hS
 go_enter Tryz.func83, Tryz.ntmps83
 go_wp2
 go_loopw [0, 3] (fun kv out wr => ∃ (q : Nat) (o : ByteArray), kv = .int .i64 q ∧ out = .string o ∧ o.size + q ≤ k ∧ Hid (mtGo q o = mtGo k ⟨#[]⟩) ∧ Below w.heap.size w wr) (fun kv _ _ => (intOf kv).toNat)
 case atStart => exact ⟨k, ⟨#[]⟩, rfl, rfl, by show 0 + k ≤ k; omega, rfl, Below.refl _ _⟩
 case round =>
  obtain ⟨q, o, rfl, rfl, hq, HG, hbel⟩ := hrel
  have HB : Hid (Below w.heap.size w wr) := hbel
  clear hbel
  by_cases h0 : 0 < q
  ·have hq0 : (0 : Int) < (q : Int) := by omega
   have hcv := conv_one wr
   have hsz : (strOfNums [48 + (q : Int) % 10]).size = 1 := rfl
   have hos : o.size ≤ 4611686018427387904 := by omega
   have HG2 : Hid (mtGo (q / 10) (strOfNums [48 + (q : Int) % 10] ++ o) = mtGo k ⟨#[]⟩) := by rw [← mtGo_step h0]; exact HG
   go_wp2
   go_roundw
   case rel => exact ⟨q / 10, _, by go_num, rfl, by rw [ByteArray.size_append, hsz]; omega, HG2, Below.alloc HB (Below.size HB) _⟩
   case measure => simp [intOf]; omega
  ·have hq0 : ¬ (0 : Int) < (q : Int) := by omega
   obtain rfl : q = 0 := by omega
   have hos : o.size ≤ 4611686018427387904 := by omega
   have HE : Hid (S = ⟨#[109]⟩ ++ o) := by
    show S = _
    rw [show S = _ from HS]
    unfold mtext
    rw [← show mtGo 0 o = _ from HG, mtGo_zero]
   go_wp2
   go_ret
   refine ⟨?_, HB⟩
   rw [show S = _ from HE]
   rfl
def Shp (w w' : World) : Prop := ∀ (j : Nat) (cur : Array Value) (ty : Nat), w.heap[j]? = some (Obj.cells cur ty (0, 0)) → ∃ cur' : Array Value, w'.heap[j]? = some (Obj.cells cur' ty (0, 0)) ∧ cur'.size = cur.size
theorem Shp.refl (w : World) : Shp w w := fun j cur ty h => ⟨cur, h, rfl⟩
theorem Shp.trans {a b c : World} (h : Shp a b) (k : Shp b c) : Shp a c := fun j cur ty hj => by
 obtain ⟨c1, h1, e1⟩ := h j cur ty hj
 obtain ⟨c2, h2, e2⟩ := k j c1 ty h1
 exact ⟨c2, h2, e2.trans e1⟩
theorem Shp.below {w w' : World} (h : Below w.heap.size w w') : Shp w w' := fun j cur ty hj => ⟨cur, (h.block j (Array.getElem?_eq_some_iff.1 hj).1).trans hj, rfl⟩
theorem Shp.set {w : World} {g o : Nat} {cur : Array Value} {ty : Nat} (hg : w.heap[g]? = some (.cells cur ty (0, 0))) (v : Value) : Shp w (w.setCell ⟨g, o, none⟩ v) := fun j cur2 ty2 hj => by
 by_cases h : j = g
 ·subst h
  rw [hg] at hj
  simp at hj
  obtain ⟨rfl, rfl⟩ := hj
  exact ⟨_, heap_setCell_same w j o cur ty v hg, by simp⟩
 ·exact ⟨cur2, by rw [heap_setCell_other w ⟨g, o, none⟩ j v h]; exact hj, rfl⟩
theorem TPart.on {w : World} {g n cap : Nat} {ts : List Tk} (h : TPart w g cap n ts) (hn : ts.length = n) (hc : n ≤ cap) : TOn g w (.slice (some ⟨g, 0, none⟩) n cap) ts := by
 obtain ⟨cur, hg, hs, hc2⟩ := h
 refine ⟨g, 0, cap, by rw [hn], by omega, Nat.le_refl _, (Array.getElem?_eq_some_iff.1 hg).1, fun j u hj => ?_⟩
 have hjl : j < ts.length * 3 := by rw [← flat_len]; exact (List.getElem?_eq_some_iff.1 hj).1
 obtain ⟨h0, h1, h2⟩ := hc2 (j / 3) (by omega)
 obtain ⟨f0, f1, f2⟩ := flat_get ts (j / 3) (by omega)
 rw [Nat.zero_add, cell_of_row w g _ cur 51 _ hg]
 have h3 : j = j / 3 * 3 ∨ j = j / 3 * 3 + 1 ∨ j = j / 3 * 3 + 2 := by omega
 rcases h3 with e | e | e
 ·rw [e] at hj ⊢; rw [h0, ← hj, f0]
 ·rw [e] at hj ⊢; rw [h1, ← hj, f1]
 ·rw [e] at hj ⊢; rw [h2, ← hj, f2]
theorem TPart.congr {w w' : World} {g n k : Nat} {ts : List Tk} (h : TPart w g n k ts) (e : w'.heap[g]? = w.heap[g]?) : TPart w' g n k ts := by
 obtain ⟨cur, hg, hs, hc⟩ := h
 exact ⟨cur, e.trans hg, hs, hc⟩
theorem TPart.shp {w w' : World} {g n k : Nat} {ts : List Tk} (h : TPart w g n k ts) (e : Shp w w') : TPart w' g n 0 [] := by
 obtain ⟨cur, hg, hs, hc⟩ := h
 obtain ⟨c, h1, h2⟩ := e g cur 51 hg
 exact ⟨c, h1, by omega, fun i hi => by omega⟩
theorem TPart.none {w : World} {g n k : Nat} {ts ts' : List Tk} (h : TPart w g n k ts) : TPart w g n 0 ts' := by
 obtain ⟨cur, hg, hs, hc⟩ := h
 exact ⟨cur, hg, hs, fun i hi => by omega⟩
def mk1 (k i : Nat) : Tk := ⟨((k + 3 * i : Nat) : Int), ((k + 3 * i + 1 : Nat) : Int), mtext (k + 3 * i + 2)⟩
def marks (k n : Nat) : List Tk := (List.range n).map (mk1 k)
theorem marks_get {k n i : Nat} (h : i < n) : (marks k n).getD i Tk.none = mk1 k i := by simp [marks, List.getD, h]
set_option maxRecDepth 100000 in
set_option maxHeartbeats 2000000 in
theorem markTokens_any {lo hi : Nat} {ao : Option Addr} {n cap N : Nat} {w : World} (k : Nat) (hk : 0 < k) (hkn : k + 3 * n ≤ 4611686018427387904) (hlo : lo ≤ w.heap.size) (h : 0 < n → ∃ g, ao = some ⟨g, 0, none⟩ ∧ n ≤ N ∧ lo ≤ g ∧ g < hi ∧ TPart w g N 0 []) :
 Calls Tryz.prog 84 #[.slice ao n cap, .int .i64 (k : Int)] w fun e w' => e = .returned (.int .i64 ((k + 3 * n : Nat) : Int)) ∧ (∀ g, 0 < n → ao = some ⟨g, 0, none⟩ → TPart w' g N n (marks k n)) ∧ Below lo w w' ∧ Abv hi w w' ∧ Shp w w' := by
 have HH : Hid (0 < n → ∃ g, ao = some ⟨g, 0, none⟩ ∧ n ≤ N ∧ lo ≤ g ∧ g < hi ∧ TPart w g N 0 []) := h
 clear h
 go_enter Tryz.func84, Tryz.ntmps84
 go_wp2_with fail
 go_loopw [1, 5] (fun kv i wr => ∃ q : Nat, q ≤ n ∧ i = .int .i64 q ∧ kv = .int .i64 ((k + 3 * q : Nat) : Int) ∧ (∀ g, 0 < n → ao = some ⟨g, 0, none⟩ → TPart wr g N q (marks k n)) ∧ Below lo w wr ∧ Abv hi w wr ∧ Shp w wr) (fun _ i _ => n - (intOf i).toNat)
 case atStart =>
  refine ⟨0, by omega, rfl, rfl, fun g h0 hg => ?_, Below.refl _ _, Abv.refl _ _, Shp.refl _⟩
  obtain ⟨g2, e, _, _, _, hp⟩ := HH h0
  rw [hg] at e
  simp at e
  subst e
  exact hp.none
 case round =>
  obtain ⟨q, hq, rfl, rfl, hp, hbel, habv, hshp⟩ := hrel
  have HP : Hid ((∀ g, 0 < n → ao = some ⟨g, 0, none⟩ → TPart wr g N q (marks k n)) ∧ Below lo w wr ∧ Abv hi w wr ∧ Shp w wr) := ⟨hp, hbel, habv, hshp⟩
  clear hp hbel habv hshp
  obtain ⟨kk, hkk⟩ : ∃ x, x = k + 3 * q := ⟨_, rfl⟩
  have HKK : Hid (kk = k + 3 * q) := hkk
  rw [← hkk]
  by_cases hqn : q < n
  ·have hqi : (q : Int) < (n : Int) := by omega
   obtain ⟨g, rfl, hnN, hlg, hgh, _⟩ := HH (by omega)
   have hpart := HP.1 g (by omega) rfl
   have hfz := hpart.free
   obtain ⟨x0, hx0⟩ := hpart.cells (q * 3) (by omega)
   obtain ⟨x1, hx1⟩ := hpart.cells (q * 3 + 1) (by omega)
   obtain ⟨cur, hcur, hcs, hcc⟩ := hpart
   have hk4 : kk + 2 ≤ 4611686018427387904 := by omega
   have hgw : g < wr.heap.size := (Array.getElem?_eq_some_iff.1 hcur).1
   have HCUR : Hid (wr.heap[g]? = some (.cells cur 51 (0, 0)) ∧ cur.size = N * 3) := ⟨hcur, hcs⟩
   clear hcur hcs hcc hkk
   obtain ⟨w2, hw2⟩ : ∃ x, x = (wr.setCell ⟨g, q * 3, none⟩ (.int .i64 (kk : Int))).setCell ⟨g, q * 3 + 1, none⟩ (.int .i64 ((kk : Int) + 1)) := ⟨_, rfl⟩
   have e1 := heap_setCell_same wr g (q * 3) cur 51 (.int .i64 (kk : Int)) HCUR.1
   have e2 := heap_setCell_same _ g (q * 3 + 1) _ 51 (.int .i64 ((kk : Int) + 1)) e1
   have H2 : Hid (w2.heap[g]? = some (.cells ((cur.setIfInBounds (q * 3) (.int .i64 (kk : Int))).setIfInBounds (q * 3 + 1) (.int .i64 ((kk : Int) + 1))) 51 (0, 0)) ∧ Below lo w w2 ∧ Abv hi w w2 ∧ Shp w w2) := by
    rw [hw2]
    exact ⟨e2, (Below.setCell HP.2.1 hlg _).setCell hlg _, (HP.2.2.1.trans (Abv.set hgh _)).trans (Abv.set hgh _), (HP.2.2.2.trans (Shp.set HCUR.1 _)).trans (Shp.set e1 _)⟩
   have HW2 : Hid (w2 = (wr.setCell ⟨g, q * 3, none⟩ (.int .i64 (kk : Int))).setCell ⟨g, q * 3 + 1, none⟩ (.int .i64 ((kk : Int) + 1))) := hw2
   clear e1 e2 hw2
   go_wp2_with fail
   rw [← show w2 = _ from HW2, show (kk : Int) + 1 + 1 = ((kk + 2 : Nat) : Int) by omega]
   refine (markText_any (kk + 2) (by omega) hk4 w2).mono ?_
   rintro e w3 ⟨rfl, hb3⟩
   have hblk : w3.heap[g]? = w2.heap[g]? := hb3.block g (by have := (Array.getElem?_eq_some_iff.1 H2.1).1; exact this)
   obtain ⟨C3, hC3⟩ : ∃ C, C = (cur.setIfInBounds (q * 3) (.int .i64 (kk : Int))).setIfInBounds (q * 3 + 1) (.int .i64 ((kk : Int) + 1)) := ⟨_, rfl⟩
   have H3 : Hid (w3.heap[g]? = some (.cells C3 51 (0, 0)) ∧ Below lo w w3 ∧ Abv hi w w3 ∧ Shp w w3 ∧ C3 = (cur.setIfInBounds (q * 3) (.int .i64 (kk : Int))).setIfInBounds (q * 3 + 1) (.int .i64 ((kk : Int) + 1))) :=
    ⟨by rw [hblk, hC3]; exact H2.1, Below.trans H2.2.1 (hb3.mono (Nat.le_trans hlo (Below.size H2.2.1))), H2.2.2.1.trans (Abv.below hb3), H2.2.2.2.trans (Shp.below hb3), hC3⟩
   have hC3s : C3.size = N * 3 := by rw [hC3]; simp [HCUR.2]
   have hx2 : ∃ x2, w3.cell? ⟨g, q * 3 + 2, none⟩ = some x2 := by
    rw [cell_of_row w3 g _ C3 51 _ H3.1]
    exact ⟨_, Array.getElem?_eq_getElem (by omega)⟩
   obtain ⟨x2, hx2⟩ := hx2
   have hfz3 : ∀ j, w3.frozen? ⟨g, j, none⟩ = false := fun j => frozen_of_row w3 g j C3 51 H3.1
   clear hblk hb3 hC3 hx0 hx1 hfz
   go_wp2
   go_roundw
   case rel =>
    refine ⟨q + 1, by omega, by go_num, by rw [show kk = _ from HKK]; go_num, fun g' _ e => ?_, Below.setCell H3.2.1 hlg _, H3.2.2.1.trans (Abv.set hgh _), H3.2.2.2.1.trans (Shp.set H3.1 _)⟩
    simp at e
    subst e
    have hput := TPart.put (HP.1 g (by omega) rfl) (t := mk1 k q) (by omega) (marks_get hqn).symm
    refine hput.congr ?_
    rw [heap_setCell_same _ g (q * 3 + 2) C3 51 _ H3.1, H3.2.2.2.2]
    have e1 := heap_setCell_same wr g (q * 3) cur 51 (.int .i64 (mk1 k q).c) HCUR.1
    have e2 := heap_setCell_same _ g (q * 3 + 1) _ 51 (.int .i64 (mk1 k q).h) e1
    have e3 := heap_setCell_same _ g (q * 3 + 2) _ 51 (.string (mk1 k q).s) e2
    rw [e3]
    simp only [mk1, ← show kk = k + 3 * q from HKK]
    simp
   case measure => simp [intOf]; omega
  ·have hqi : ¬ (q : Int) < (n : Int) := by omega
   obtain rfl : q = n := by omega
   clear hkk
   go_wp2
   go_ret
   refine ⟨?_, HP⟩
   have hx : (k : Int) + 3 * (q : Int) = (kk : Int) := by have := show kk = _ from HKK; omega
   first
    | rw [hx]
    | rw [show ((k + 3 * q : Nat) : Int) = (kk : Int) by omega]
   rfl
end Go.Proofs.YtbpidcfoldkhgaaGreat
