/-
  Answers of MatchArgs: compared, marked and looked at again.
-/
import Derived.Test.YtbceblgnjicdcaaSma
import Derived.Test.YtbceblgnjicdcaaFlLaw
namespace Go.Proofs.Ytbceblgnjicdcaa
open Go.RowKit
set_option linter.unusedVariables false
set_option linter.unusedSimpArgs false

/-- Values one by one are lists of tokens. -/
def VOf (w : World) : List Value → List (List Tk) → Prop
  | [], [] => True
  | v :: vs, r :: rs => TRow w v r ∧ VOf w vs rs
  | [], _ :: _ => False
  | _ :: _, [] => False
theorem VOf.len {w : World} : ∀ (vs : List Value) (rs : List (List Tk)), VOf w vs rs → vs.length = rs.length
  | [], [], _ => rfl
  | v :: vs, r :: rs, h => by simp only [List.length_cons, VOf.len vs rs h.2]
  | [], _ :: _, h => h.elim
  | _ :: _, [], h => h.elim
theorem VOf.get {w : World} : ∀ (vs : List Value) (rs : List (List Tk)) (i : Nat), VOf w vs rs → i < rs.length → ∃ v, vs[i]? = some v ∧ TRow w v (rs.getD i [])
  | [], [], i, _, h => by simp at h
  | v :: vs, r :: rs, 0, h, _ => ⟨v, rfl, h.1⟩
  | v :: vs, r :: rs, i + 1, h, hi => by
    obtain ⟨u, h1, h2⟩ := VOf.get vs rs i h.2 (by simpa using hi)
    exact ⟨u, by simpa using h1, by simpa using h2⟩
  | [], _ :: _, i, h, _ => h.elim
  | _ :: _, [], i, h, _ => h.elim
theorem VOf.row {base n : Nat} {w : World} {v : Value} {vs : List Value} {rs : List (List Tk)} (h : w.ownsRow base 32 1 v n vs) (hr : VOf w vs rs) : SRow 1 TsR [] 0 w v rs := by
  have hlen := VOf.len vs rs hr
  obtain ⟨hl, ⟨rfl, rfl⟩ | ⟨g, cap, cur, rfl, hg, hb, hn, hm, hs, hx⟩⟩ := h
  · exact ⟨_, _, _, rfl, by omega, fun h => absurd h (Nat.lt_irrefl 0)⟩
  · refine ⟨_, _, _, rfl, by omega, fun _ => ⟨g, 0, rfl, Nat.zero_le _, (Array.getElem?_eq_some_iff.1 hb).1, fun i hi => ?_⟩⟩
    obtain ⟨u, h1, h2⟩ := VOf.get vs rs i hr (by omega)
    refine ⟨[u], rfl, ⟨u, rfl, h2, fun _ _ _ _ _ => Nat.zero_le _⟩, fun j hj => ?_⟩
    obtain rfl : j = 0 := by omega
    rw [Nat.zero_add, Nat.mul_one, Nat.add_zero, cell_of_row w g _ cur 32 _ hb, ← Array.getElem?_toList]
    rw [← hx, List.getElem?_take] at h1
    split at h1
    · exact h1
    · simp at h1
theorem AInc.vof {w : World} : ∀ (vs : List Value) (rs : List (List Tk)) (lo hi : Nat), AInc w lo hi vs rs → VOf w vs rs
  | [], [], lo, hi, h => trivial
  | v :: vs, r :: rs, lo, hi, ⟨mid, h1, h2, h3⟩ => ⟨(own_n h2.1).row, AInc.vof vs rs mid hi h3⟩
  | [], _ :: _, _, _, h => h.elim
  | _ :: _, [], _, _, h => h.elim
theorem AOf.vof {base : Nat} {w : World} : ∀ (vs : List Value) (rs : List (List Tk)), AOf base w vs rs → VOf w vs rs
  | [], [], h => trivial
  | v :: vs, r :: rs, h => ⟨(own_n h.1.1).row, AOf.vof vs rs h.2⟩
  | [], _ :: _, h => h.elim
  | _ :: _, [], h => h.elim
theorem GInc.row {lo : Nat} {w : World} {v : Value} {rs : List (List Tk)} (h : GInc lo w v rs) : SRow 1 TsR [] 0 w v rs := by
  obtain ⟨n, vs, mid, h1, _, _, h2⟩ := h
  exact VOf.row h1 (h2.vof)

/-- Lists of lists that lie between lo and hi: the row ahead of mid, the lists behind it. -/
def GIn (lo hi : Nat) (w : World) (v : Value) (rs : List (List Tk)) : Prop := ∃ n vs mid, w.ownsRow lo 32 1 v n vs ∧ (∀ g, v.ownBlock = some g → g < mid) ∧ lo ≤ mid ∧ mid ≤ hi ∧ AInc w mid hi vs rs
theorem GInc.gin {lo : Nat} {w : World} {v : Value} {rs : List (List Tk)} (h : GInc lo w v rs) : GIn lo w.heap.size w v rs := by
  obtain ⟨n, vs, mid, h1, h2, h3, h4⟩ := h
  exact ⟨n, vs, mid, h1, h2, h3, AInc.le _ _ _ _ h4, h4⟩
theorem GIn.keep {lo hi : Nat} {w w' : World} {v : Value} {rs : List (List Tk)} (h : GIn lo hi w v rs) (hk : ∀ g, lo ≤ g → g < hi → g < w.heap.size → w'.heap[g]? = w.heap[g]?) : GIn lo hi w' v rs := by
  obtain ⟨n, vs, mid, h1, h2, h3, h4, h5⟩ := h
  refine ⟨n, vs, mid, ?_, h2, h3, h4, AInc.keep _ _ _ _ (fun g a b c => hk g (by omega) b c) h5⟩
  obtain ⟨hl, h | ⟨g, cap, cur, rfl, hg, hb, hr⟩⟩ := h1
  · exact ⟨hl, .inl h⟩
  · exact ⟨hl, .inr ⟨g, cap, cur, rfl, hg, (hk g hg (by have := h2 g rfl; omega) (Array.getElem?_eq_some_iff.1 hb).1).trans hb, hr⟩⟩
theorem GIn.row {lo hi : Nat} {w : World} {v : Value} {rs : List (List Tk)} (h : GIn lo hi w v rs) : SRow 1 TsR [] 0 w v rs := by
  obtain ⟨n, vs, mid, h1, _, _, _, h2⟩ := h
  exact VOf.row h1 (h2.vof)
theorem GIn.shape {lo hi : Nat} {w : World} {v : Value} {rs : List (List Tk)} (h : GIn lo hi w v rs) : ∃ a n c, v = .slice a n c := by
  obtain ⟨n, vs, mid, h1, _⟩ := h
  obtain ⟨a, c, rfl⟩ := own1_shape h1
  exact ⟨_, _, _, rfl⟩
/-- What the specification answered: all of it between lo and hi. -/
def SIn (lo hi : Nat) (w : World) (v : Value) (rs : List (List Tk)) : Prop := ∃ n vs, w.ownsRow lo 32 1 v n vs ∧ AOf lo w vs rs ∧ (∀ g, v.ownBlock = some g → g < hi) ∧ ∀ u ∈ vs, ∀ g, u.ownBlock = some g → g < hi
theorem aof_lt {lo : Nat} {w : World} : ∀ (vs : List Value) (rs : List (List Tk)), AOf lo w vs rs → ∀ u ∈ vs, ∀ g, u.ownBlock = some g → g < w.heap.size
  | [], [], h, u, hu, _, _ => by simp at hu
  | v :: vs, r :: rs, h, u, hu, g, hg => by
    rcases List.mem_cons.1 hu with rfl | hu
    · exact (World.ownsRow.lt h.1.1 g hg).2
    · exact aof_lt vs rs h.2 u hu g hg
  | [], _ :: _, h, _, _, _, _ => h.elim
  | _ :: _, [], h, _, _, _, _ => h.elim
theorem SIn.of {lo n : Nat} {w : World} {v : Value} {vs : List Value} {rs : List (List Tk)} (h1 : w.ownsRow lo 32 1 v n vs) (h2 : AOf lo w vs rs) : SIn lo w.heap.size w v rs :=
  ⟨n, vs, h1, h2, fun g hg => (World.ownsRow.lt h1 g hg).2, aof_lt vs rs h2⟩
theorem aof_keep {lo hi : Nat} {w w' : World} (hk : ∀ g, lo ≤ g → g < hi → g < w.heap.size → w'.heap[g]? = w.heap[g]?) : ∀ (vs : List Value) (rs : List (List Tk)), AOf lo w vs rs → (∀ u ∈ vs, ∀ g, u.ownBlock = some g → g < hi) → AOf lo w' vs rs
  | [], [], _, _ => trivial
  | v :: vs, r :: rs, h, hu => by
    refine ⟨⟨?_, h.1.2⟩, aof_keep hk vs rs h.2 (fun u hu2 => hu u (List.mem_cons_of_mem _ hu2))⟩
    obtain ⟨hl, h' | ⟨g, cap, cur, rfl, hg, hb, hr⟩⟩ := h.1.1
    · exact ⟨hl, .inl h'⟩
    · exact ⟨hl, .inr ⟨g, cap, cur, rfl, hg, (hk g hg (hu _ (List.mem_cons_self ..) g rfl) (Array.getElem?_eq_some_iff.1 hb).1).trans hb, hr⟩⟩
  | [], _ :: _, h, _ => h.elim
  | _ :: _, [], h, _ => h.elim
theorem SIn.keep {lo hi : Nat} {w w' : World} {v : Value} {rs : List (List Tk)} (h : SIn lo hi w v rs) (hk : ∀ g, lo ≤ g → g < hi → g < w.heap.size → w'.heap[g]? = w.heap[g]?) : SIn lo hi w' v rs := by
  obtain ⟨n, vs, h1, h2, h3, h4⟩ := h
  refine ⟨n, vs, ?_, aof_keep hk vs rs h2 h4, h3, h4⟩
  obtain ⟨hl, h | ⟨g, cap, cur, rfl, hg, hb, hr⟩⟩ := h1
  · exact ⟨hl, .inl h⟩
  · exact ⟨hl, .inr ⟨g, cap, cur, rfl, hg, (hk g hg (h3 g rfl) (Array.getElem?_eq_some_iff.1 hb).1).trans hb, hr⟩⟩
theorem SIn.row {lo hi : Nat} {w : World} {v : Value} {rs : List (List Tk)} (h : SIn lo hi w v rs) : SRow 1 TsR [] 0 w v rs := by
  obtain ⟨n, vs, h1, h2, _⟩ := h
  exact VOf.row h1 (AOf.vof _ _ h2)
theorem SIn.shape {lo hi : Nat} {w : World} {v : Value} {rs : List (List Tk)} (h : SIn lo hi w v rs) : ∃ a n c, v = .slice a n c := by
  obtain ⟨n, vs, h1, _⟩ := h
  obtain ⟨a, c, rfl⟩ := own1_shape h1
  exact ⟨_, _, _, rfl⟩

set_option maxRecDepth 100000 in
set_option maxHeartbeats 4000000 in
theorem eqMatch_same {v1 v2 : Value} {u c : Int} {rs : List (List Tk)} {w : World} (h1 : SRow 1 TsR [] 0 w v1 rs) (h2 : SRow 1 TsR [] 0 w v2 rs) (hs : rs.length ≤ 1048576 ∧ ∀ i, i < rs.length → Sml (rs.getD i [])) :
    Calls Try.prog 29 #[.agg #[v1, .int .i64 u, .int .i64 c], .agg #[v2, .int .i64 u, .int .i64 c]] w fun e w' => e = .returned (.bool true) ∧ Below w.heap.size w w' := by
  have H1 : Hid (SRow 1 TsR [] 0 w v1 rs) := h1
  have H2 : Hid (SRow 1 TsR [] 0 w v2 rs) := h2
  obtain ⟨a1, n1, c1, rfl, _⟩ := h1
  obtain ⟨a2, n2, c2, rfl, _⟩ := h2
  have BA : Hid (Below w.heap.size w ((w.alloc (.cells #[.slice a1 n1 c1, .int .i64 u, .int .i64 c] 59)).alloc (.cells #[.slice a2 n2 c2, .int .i64 u, .int .i64 c] 59))) := (below1 w _).alloc (by simp) _
  go_enter Try.func29, Try.ntmps29
  go_wp2_with fail
  refine (eqTss_same (SRow.below tsStable H1 BA) (SRow.below tsStable H2 BA) hs).mono ?_
  rintro e w1 ⟨rfl, hb1⟩
  have B1 : Hid (Below w.heap.size w w1) := below_more BA hb1 (by simp; omega)
  have qa : w1.heap[w.heap.size]? = some (.cells #[.slice a1 n1 c1, .int .i64 u, .int .i64 c] 59) := (hb1.block _ (by simp; omega)).trans (((below1 _ _).block _ (by simp)).trans (heap_alloc_new _ _))
  have qb : w1.heap[w.heap.size + 1]? = some (.cells #[.slice a2 n2 c2, .int .i64 u, .int .i64 c] 59) := by
    rw [hb1.block _ (by simp)]
    have := heap_alloc_new (w.alloc (.cells #[.slice a1 n1 c1, .int .i64 u, .int .i64 c] 59)) (.cells #[.slice a2 n2 c2, .int .i64 u, .int .i64 c] 59)
    rw [World.size_alloc] at this
    exact this
  have e1 : w1.cell? ⟨w.heap.size, 1, none⟩ = some (.int .i64 u) := by rw [cell_of_row w1 _ _ _ 59 _ qa]; rfl
  have e2 : w1.cell? ⟨w.heap.size, 2, none⟩ = some (.int .i64 c) := by rw [cell_of_row w1 _ _ _ 59 _ qa]; rfl
  have f1 : w1.cell? ⟨w.heap.size + 1, 1, none⟩ = some (.int .i64 u) := by rw [cell_of_row w1 _ _ _ 59 _ qb]; rfl
  have f2 : w1.cell? ⟨w.heap.size + 1, 2, none⟩ = some (.int .i64 c) := by rw [cell_of_row w1 _ _ _ 59 _ qb]; rfl
  clear hb1 qa qb BA
  go_wp2
  go_ret
  exact ⟨rfl, B1⟩

/-- A row whose block lies below mid. -/
def KB (mid : Nat) (w : World) (v : Value) (ts : List Tk) : Prop := TRow w v ts ∧ ∀ b off n cap, v = .slice (some ⟨b, off, none⟩) n cap → b < mid
theorem KB.bel {mid : Nat} {w w' : World} {v : Value} {ts : List Tk} (h : KB mid w v ts) (hb : Below mid w w') : KB mid w' v ts := by
  obtain ⟨⟨ao, n, cap, rfl, hl, hr⟩, hm⟩ := h
  refine ⟨⟨ao, n, cap, rfl, hl, fun h0 => ?_⟩, hm⟩
  obtain ⟨b, off, rfl, hlt, hc⟩ := hr h0
  have hbm := hm b off n cap rfl
  refine ⟨b, off, rfl, Nat.lt_of_lt_of_le hlt hb.size, fun i hi => ?_⟩
  obtain ⟨x0, x1, x2⟩ := hc i hi
  exact ⟨(hb.cell (p := ⟨b, off + i * 3, none⟩) hbm).trans x0, (hb.cell (p := ⟨b, off + i * 3 + 1, none⟩) hbm).trans x1, (hb.cell (p := ⟨b, off + i * 3 + 2, none⟩) hbm).trans x2⟩
/-- Lists that bear the marks from k on, their blocks below mid. -/
def KOf (mid : Nat) (w : World) : Nat → List Value → List (List Tk) → Prop
  | _, [], [] => True
  | k, v :: vs, r :: rs => KB mid w v (marks k r.length) ∧ KOf mid w (k + 3 * r.length) vs rs
  | _, [], _ :: _ => False
  | _, _ :: _, [] => False
theorem KOf.bel {mid mid' : Nat} {w w' : World} (hb : Below mid w w') (hm : mid ≤ mid') : ∀ (vs : List Value) (rs : List (List Tk)) (k : Nat), KOf mid w k vs rs → KOf mid' w' k vs rs
  | [], [], k, _ => trivial
  | v :: vs, r :: rs, k, h => ⟨⟨(h.1.bel hb).1, fun b off n cap e => Nat.lt_of_lt_of_le (h.1.2 b off n cap e) hm⟩, KOf.bel hb hm vs rs _ h.2⟩
  | [], _ :: _, _, h => h.elim
  | _ :: _, [], _, h => h.elim
theorem KOf.snoc {mid : Nat} {w : World} {v : Value} {r : List Tk} : ∀ (vs : List Value) (rs : List (List Tk)) (k : Nat), KOf mid w k vs rs → KB mid w v (marks (k + 3 * total rs) r.length) → KOf mid w k (vs ++ [v]) (rs ++ [r])
  | [], [], k, _, hv => ⟨by simpa [total] using hv, trivial⟩
  | u :: vs, q :: rs, k, h, hv => ⟨h.1, KOf.snoc vs rs _ h.2 (by
      have e : k + 3 * total (q :: rs) = k + 3 * q.length + 3 * total rs := by unfold total; rw [List.flatten_cons, List.length_append]; omega
      rw [← e]; exact hv)⟩
  | [], _ :: _, _, h, _ => h.elim
  | _ :: _, [], _, h, _ => h.elim
theorem KOf.get {mid : Nat} {w : World} : ∀ (vs : List Value) (rs : List (List Tk)) (k i : Nat), KOf mid w k vs rs → i < rs.length → ∃ v, vs[i]? = some v ∧ TRow w v (marks (k + 3 * total (rs.take i)) (rs.getD i []).length)
  | [], [], k, i, _, h => by simp at h
  | v :: vs, r :: rs, k, 0, h, _ => ⟨v, rfl, by simpa [total] using h.1.1⟩
  | v :: vs, r :: rs, k, i + 1, h, hi => by
    obtain ⟨u, h1, h2⟩ := KOf.get vs rs _ i h.2 (by simpa using hi)
    refine ⟨u, by simpa using h1, ?_⟩
    have e : k + 3 * total ((r :: rs).take (i + 1)) = k + 3 * r.length + 3 * total (rs.take i) := by unfold total; rw [List.take_succ_cons, List.flatten_cons, List.length_append]; omega
    rw [e]
    simpa using h2
  | [], _ :: _, _, i, h, _ => h.elim
  | _ :: _, [], _, i, h, _ => h.elim
theorem total_take {rs : List (List Tk)} {i : Nat} (h : i < rs.length) : total (rs.take (i + 1)) = total (rs.take i) + (rs.getD i []).length := by
  unfold total
  rw [List.take_add_one, List.flatten_append, List.length_append, List.getD_eq_getElem?_getD, List.getElem?_eq_getElem h]
  simp
theorem total_take_le (rs : List (List Tk)) (i : Nat) : total (rs.take i) ≤ total rs := by
  have : rs.flatten = (rs.take i).flatten ++ (rs.drop i).flatten := by rw [← List.flatten_append, List.take_append_drop]
  unfold total
  rw [this, List.length_append]
  omega

/-- What is marked from k on. -/
def MIn (lo hi : Nat) (w : World) (v : Value) (k : Nat) (rs : List (List Tk)) : Prop := ∃ n vs, w.ownsRow lo 32 1 v n vs ∧ KOf hi w k vs rs

def TInv (w : World) (lo hi : Nat) (v : Value) (n : Nat) (vs : List Value) (rs : List (List Tk)) (k : Nat) (kv iv : Value) (wr : World) : Prop :=
  ∃ (i mid : Nat), iv = .int .i64 (i : Int) ∧ i ≤ n ∧ kv = .int .i64 ((k + 3 * total (rs.take i) : Nat) : Int) ∧ wr.ownsRow lo 32 1 v n vs ∧ (∀ g, v.ownBlock = some g → g < mid) ∧ lo ≤ mid ∧ mid ≤ hi ∧ KOf mid wr k (vs.take i) (rs.take i) ∧ AInc wr mid hi (vs.drop i) (rs.drop i) ∧ Below lo w wr ∧ Abv hi w wr

set_option maxRecDepth 100000 in
set_option maxHeartbeats 4000000 in
theorem markTss_i {lo hi : Nat} {v : Value} {rs : List (List Tk)} {w : World} (k : Nat) (hk : 0 < k) (hkn : k + 3 * total rs ≤ 4611686018427387904) (hn2 : rs.length ≤ 1048576) (hhi : hi ≤ w.heap.size) (h : GIn lo hi w v rs) :
    Calls Try.prog 41 #[v, .int .i64 (k : Int)] w fun e w' => e = .returned (.int .i64 ((k + 3 * total rs : Nat) : Int)) ∧ MIn lo hi w' v k rs ∧ Below lo w w' ∧ Abv hi w w' := by
  obtain ⟨n, vs, mid, hown, hgm, hlm, hmh, hai⟩ := h
  obtain ⟨a, c, rfl⟩ := own1_shape hown
  have hvl : vs.length = n := hown.1.trans (by simp)
  have hrl : rs.length = n := by rw [← VOf.len vs rs (AInc.vof _ _ _ _ hai)]; exact hvl
  have START : Hid (TInv w lo hi (.slice a n c) n vs rs k (.int .i64 (k : Int)) (.int .i64 0) w) := ⟨0, mid, rfl, Nat.zero_le _, by simp [total], hown, hgm, hlm, hmh, trivial, hai, Below.refl _ _, Abv.refl _ _⟩
  have HVL : Hid (vs.length = n ∧ rs.length = n) := ⟨hvl, hrl⟩
  have hn3 : n ≤ 1048576 := by omega
  have HKN : Hid (k + 3 * total rs ≤ 4611686018427387904) := hkn
  clear hown hgm hai hvl hrl hkn
  obtain ⟨TT, hTT⟩ : ∃ T, T = k + 3 * total rs := ⟨_, rfl⟩
  have HTT : Hid (TT = k + 3 * total rs) := hTT
  rw [← hTT]
  clear hTT
  go_enter Try.func41, Try.ntmps41
  go_wp2_with fail
  go_loopw [1, 5] (fun kv iv wr => Hid (TInv w lo hi (.slice a n c) n vs rs k kv iv wr)) (fun _ iv _ => n - (intOf iv).toNat)
  case atStart => exact START
  case round =>
    clear START
    obtain ⟨i, mid, rfl, hin, rfl, hown, hgm, hlm, hmh, hko, hai, hbel, habv⟩ := hrel
    obtain ⟨kk, hkk⟩ : ∃ x, x = k + 3 * total (rs.take i) := ⟨_, rfl⟩
    have HKK : Hid (kk = k + 3 * total (rs.take i)) := hkk
    rw [← hkk]
    have hzw : w.heap.size ≤ wr.heap.size := hbel.size
    by_cases hk2 : i < n
    · have hki : (i : Int) < (n : Int) := by omega
      obtain ⟨g, rfl⟩ : ∃ g, a = some ⟨g, 0, none⟩ := by
        rcases hown.2 with ⟨h, _⟩ | ⟨g, cap, cur, h, _⟩
        · simp at h; omega
        · simp at h; exact ⟨g, h.1⟩
      obtain ⟨u, vs1, hdv⟩ : ∃ u vs1, vs.drop i = u :: vs1 := by
        cases h : vs.drop i with
        | nil => have := congrArg List.length h; rw [List.length_drop, HVL.1] at this; simp at this; omega
        | cons u vs1 => exact ⟨u, vs1, rfl⟩
      obtain ⟨r, rs1, hdr⟩ : ∃ r rs1, rs.drop i = r :: rs1 := by
        cases h : rs.drop i with
        | nil => have := congrArg List.length h; rw [List.length_drop, HVL.2] at this; simp at this; omega
        | cons u vs1 => exact ⟨u, vs1, rfl⟩
      rw [hdv, hdr] at hai
      obtain ⟨mid2, hm2, hob, hai2⟩ := hai
      have hm2h : mid2 ≤ hi := AInc.le _ _ _ _ hai2
      obtain ⟨ua, uc, rfl, _⟩ := own_shape hob.1
      have hvi : vs[i]? = some (.slice ua r.length uc) := by have h2 := congrArg (fun l => l[0]?) hdv; simpa using h2
      have hri : rs.getD i [] = r := by have h2 := congrArg (fun l => l[0]?) hdr; simp at h2; simp [List.getD, h2]
      have ck : wr.cell? ⟨g, i, none⟩ = some (.slice ua r.length uc) := by rw [World.ownsRow.cellAt hown i (by omega)]; exact hvi
      have hgz : g < wr.heap.size := (World.ownsRow.lt hown g rfl).2
      have HMK : Hid (0 < r.length → ∃ g, ua = some ⟨g, 0, none⟩ ∧ r.length ≤ uc ∧ mid ≤ g ∧ g < mid2 ∧ TPart wr g uc 0 []) := by
        intro h0
        obtain ⟨g', e, h1, h2, h3, h4⟩ := own_mark hob.1 h0
        exact ⟨g', e, h1, h2, hob.2 g' (by rw [e]; rfl), h4⟩
      have hstep : kk + 3 * r.length = k + 3 * total (rs.take (i + 1)) := by rw [total_take (by rw [HVL.2]; exact hk2), hri, hkk]; omega
      have hkb : kk + 3 * r.length ≤ 4611686018427387904 := by rw [hstep]; have := total_take_le rs (i + 1); have := show k + 3 * total rs ≤ _ from HKN; omega
      have HST : Hid (kk + 3 * r.length = k + 3 * total (rs.take (i + 1))) := hstep
      have hk0 : 0 < kk := by omega
      have NEXT : Hid (∀ w2 : World, (∀ g, 0 < r.length → ua = some ⟨g, 0, none⟩ → TPart w2 g uc r.length (marks kk r.length)) → Below mid wr w2 → Abv mid2 wr w2 → TInv w lo hi (.slice (some ⟨g, 0, none⟩) n c) n vs rs k (.int .i64 ((kk + 3 * r.length : Nat) : Int)) (.int .i64 ((i + 1 : Nat) : Int)) w2) := by
        intro w2 ht hb ha
        have e1 : vs.take (i + 1) = vs.take i ++ [.slice ua r.length uc] := by rw [List.take_add_one, hvi]; rfl
        have e2 : rs.take (i + 1) = rs.take i ++ [r] := by
          rw [List.take_add_one]
          have : rs[i]? = some r := by have h2 := congrArg (fun l => l[0]?) hdr; simpa using h2
          rw [this]; rfl
        have e3 : vs.drop (i + 1) = vs1 := by have := congrArg (List.drop 1) hdv; rw [List.drop_drop] at this; simpa using this
        have e4 : rs.drop (i + 1) = rs1 := by have := congrArg (List.drop 1) hdr; rw [List.drop_drop] at this; simpa using this
        have hgm' := hgm g rfl
        have hown2 : w2.ownsRow lo 32 1 (.slice (some ⟨g, 0, none⟩) n c) n vs := by
          obtain ⟨hl, h | ⟨g', cap, cur, e, hg, hbk, hr⟩⟩ := hown
          · exact ⟨hl, .inl h⟩
          · simp at e
            obtain ⟨rfl, rfl⟩ := e
            exact ⟨hl, .inr ⟨g, c, cur, rfl, hg, (hb.block g hgm').trans hbk, hr⟩⟩
        refine ⟨i + 1, mid2, rfl, by omega, by rw [← hstep], hown2, fun q hq => Nat.lt_of_lt_of_le (hgm q hq) hm2, by omega, hm2h, ?_, ?_, hbel.trans (hb.mono hlm), habv.trans ⟨?_, ?_⟩⟩
        · rw [e1, e2]
          refine KOf.snoc _ _ _ (KOf.bel hb hm2 _ _ _ hko) ?_
          rw [← hkk]
          refine ⟨marked_row (fun h0 => ?_), fun b off n' cap e => ?_⟩
          · obtain ⟨g', e, h1, _⟩ := HMK h0
            exact ⟨g', e, h1, ht g' h0 e⟩
          · simp at e
            obtain ⟨hl, h | ⟨q, cap', cur, e2, hq, hb2, hr2⟩⟩ := hob.1
            · simp at h; rw [h.1.1] at e; simp at e
            · simp at e2
              rw [e2.1] at e
              simp at e
              rw [← e.1.1]
              exact hob.2 q (by rw [e2.1]; rfl)
        · rw [e3, e4]
          exact AInc.keep _ _ _ _ (fun q hq _ h3 => ha.block q hq h3) hai2
        all_goals first
          | exact ha.size
          | exact fun q hq h3 => ha.block q (by omega) h3
      clear hown hai2 hbel habv hko hdv hdr hob hstep hkk hvi hri hgm
      go_wp2_with fail
      refine (markTokens_any (N := uc) (lo := mid) (hi := mid2) kk hk0 hkb (by omega) HMK).mono ?_
      rintro e w2 ⟨rfl, ht2, hb2, ha2, _⟩
      have N2 : Hid (TInv w lo hi (.slice (some ⟨g, 0, none⟩) n c) n vs rs k (.int .i64 ((kk + 3 * r.length : Nat) : Int)) (.int .i64 ((i + 1 : Nat) : Int)) w2) := NEXT w2 ht2 hb2 ha2
      clear ht2 hb2 ha2 NEXT HMK
      go_wp2
      go_roundw
      case rel => exact N2
      case measure => simp [intOf]; omega
    · have hki : ¬ (i : Int) < (n : Int) := by omega
      obtain rfl : i = n := by omega
      have FIN : Hid (kk = TT ∧ MIn lo hi wr (.slice a i c) k rs ∧ Below lo w wr ∧ Abv hi w wr) := by
        refine ⟨?_, ⟨i, vs, hown, ?_⟩, hbel, habv⟩
        · rw [hkk, show TT = _ from HTT, List.take_of_length_le (by rw [HVL.2]; exact Nat.le_refl _)]
        · rw [List.take_of_length_le (by rw [HVL.1]; exact Nat.le_refl _), List.take_of_length_le (by rw [HVL.2]; exact Nat.le_refl _)] at hko
          exact KOf.bel (Below.refl _ _) hmh _ _ _ hko
      clear hown hai hbel habv hko hkk hgm
      obtain rfl : kk = TT := FIN.1
      go_wp2
      go_ret
      exact ⟨rfl, FIN.2⟩

set_option maxRecDepth 100000 in
set_option maxHeartbeats 4000000 in
theorem heldTss_any {lo hi : Nat} {v : Value} {rs : List (List Tk)} {w : World} (k : Nat) (hk : 0 < k) (hkn : k + 3 * total rs ≤ 4611686018427387904) (hn2 : rs.length ≤ 1048576) (h : MIn lo hi w v k rs) :
    Calls Try.prog 74 #[v, .int .i64 (k : Int)] w fun e w' => e = .returned (.int .i64 ((k + 3 * total rs : Nat) : Int)) ∧ Below w.heap.size w w' := by
  obtain ⟨n, vs, hown, hko⟩ := h
  obtain ⟨a, c, rfl⟩ := own1_shape hown
  have hvl : vs.length = n := hown.1.trans (by simp)
  have hlen : ∀ (vs : List Value) (rs : List (List Tk)) (k : Nat), KOf hi w k vs rs → vs.length = rs.length := by
    intro vs
    induction vs with
    | nil => intro rs k h; cases rs with
      | nil => rfl
      | cons _ _ => exact h.elim
    | cons v vs ih => intro rs k h; cases rs with
      | nil => exact h.elim
      | cons r rs => simp only [List.length_cons, ih rs _ h.2]
  have hrl : rs.length = n := by rw [← hlen vs rs k hko]; exact hvl
  have HOWN : Hid (w.ownsRow lo 32 1 (.slice a n c) n vs) := hown
  have HKO : Hid (KOf hi w k vs rs) := hko
  have HVL : Hid (vs.length = n ∧ rs.length = n) := ⟨hvl, hrl⟩
  have hn3 : n ≤ 1048576 := by omega
  have HKN : Hid (k + 3 * total rs ≤ 4611686018427387904) := hkn
  obtain ⟨TT, hTT⟩ : ∃ T, T = k + 3 * total rs := ⟨_, rfl⟩
  have HTT : Hid (TT = k + 3 * total rs) := hTT
  rw [← hTT]
  clear hTT hown hko hvl hrl hkn hlen
  go_enter Try.func74, Try.ntmps74
  go_wp2_with fail
  go_loopw [1, 5] (fun kv iv wr => ∃ i : Nat, iv = .int .i64 (i : Int) ∧ i ≤ n ∧ kv = .int .i64 ((k + 3 * total (rs.take i) : Nat) : Int) ∧ Below w.heap.size w wr) (fun _ iv _ => n - (intOf iv).toNat)
  case atStart => exact ⟨0, rfl, Nat.zero_le _, by simp [total], Below.refl _ _⟩
  case round =>
    obtain ⟨i, rfl, hin, rfl, hbel⟩ := hrel
    obtain ⟨kk, hkk⟩ : ∃ x, x = k + 3 * total (rs.take i) := ⟨_, rfl⟩
    rw [← hkk]
    have HB : Hid (Below w.heap.size w wr) := hbel
    by_cases hk2 : i < n
    · have hki : (i : Int) < (n : Int) := by omega
      obtain ⟨g, rfl⟩ : ∃ g, a = some ⟨g, 0, none⟩ := by
        rcases HOWN.2 with ⟨h, _⟩ | ⟨g, cap, cur, h, _⟩
        · simp at h; omega
        · simp at h; exact ⟨g, h.1⟩
      obtain ⟨u, hu, htr⟩ := KOf.get vs rs k i HKO (by rw [HVL.2]; exact hk2)
      rw [← hkk] at htr
      obtain ⟨r, hr⟩ : ∃ r, r = (rs.getD i []).length := ⟨_, rfl⟩
      rw [← hr] at htr
      have htr2 := htr
      obtain ⟨ua, un, uc, rfl, _⟩ := htr2
      have hgz : g < w.heap.size := (World.ownsRow.lt HOWN g rfl).2
      have ck : wr.cell? ⟨g, i, none⟩ = some (.slice ua un uc) := (hbel.cell (p := ⟨g, i, none⟩) hgz).trans (by rw [World.ownsRow.cellAt HOWN i (by omega)]; exact hu)
      have hgzr : g < wr.heap.size := Nat.lt_of_lt_of_le hgz hbel.size
      have hstep : kk + 3 * r = k + 3 * total (rs.take (i + 1)) := by rw [total_take (by rw [HVL.2]; exact hk2), hr, hkk]; omega
      have HST : Hid (kk + 3 * r = k + 3 * total (rs.take (i + 1))) := hstep
      have hkb : kk + 3 * r ≤ 4611686018427387904 := by rw [hstep]; have := total_take_le rs (i + 1); have := show k + 3 * total rs ≤ _ from HKN; omega
      have HC : Hid (Calls Try.prog 42 #[.slice ua un uc, .int .i64 (kk : Int)] wr fun e w' => e = .returned (.int .i64 ((kk + 3 * r : Nat) : Int)) ∧ Below wr.heap.size wr w') := heldTokens_any (TRow.below htr hbel) (by omega) hkb
      obtain ⟨k3, hk3⟩ : ∃ k3, k3 = kk + 3 * r := ⟨_, rfl⟩
      rw [← hk3] at HC HST
      have hk3n : ¬ (k3 : Int) < 0 := by omega
      clear hkk htr hu hstep hr hbel hk3
      go_wp2_with fail
      refine Calls.mono HC ?_
      rintro e w2 ⟨rfl, hb2⟩
      have B2 : Hid (Below w.heap.size w w2) := below_more HB hb2 (Below.size HB)
      clear hb2
      go_wp2
      go_roundw
      case rel => exact ⟨i + 1, by go_num, by omega, by rw [show k3 = _ from HST], B2⟩
      case measure => simp [intOf]; omega
    · have hki : ¬ (i : Int) < (n : Int) := by omega
      obtain rfl : i = n := by omega
      have hkt : kk = TT := by rw [hkk, show TT = _ from HTT, List.take_of_length_le (by rw [HVL.2]; exact Nat.le_refl _)]
      subst hkt
      clear hkk hbel
      go_wp2
      go_ret
      exact ⟨rfl, HB⟩
end Go.Proofs.Ytbceblgnjicdcaa
