import Derived.Test.YtojoehdmjkgnnaaGreatSrp
import Derived.Test.YtojoehdmjkgnnaaGreatPak
import Derived.Test.YtojoehdmjkgnnaaGreatRof
import Derived.Test.YtojoehdmjkgnnaaGreatCon
import Derived.Laws.AppendOwnNone
import Derived.Laws.CopyRow
import Derived.Maps.AppendAt
namespace Go.Proofs.YtojoehdmjkgnnaaGreat
open Go.RowKit
set_option linter.unusedVariables false
set_option linter.unusedSimpArgs false
theorem okFrom_pads (len e : Int) (ys : List Nd) : ∀ T : List Int, (∀ t ∈ T, t = e) → okFrom len e T ys = okFrom len e [] ys
 | [], _ => rfl
 | t :: T, h => by
  have h0 := h t (by simp)
  subst h0
  rw [okFrom_pad]
  exact okFrom_pads len t ys T (fun x hx => h x (by simp [hx]))
theorem drop_gt {i : Int} : ∀ T : List Int, T.Pairwise (· ≤ ·) → (∀ t ∈ T, i ≤ t) → (T.dropWhile (· == i)).Pairwise (· ≤ ·) ∧ ∀ t ∈ T.dropWhile (· == i), t ∈ T ∧ i + 1 ≤ t
 | [], _, _ => ⟨List.Pairwise.nil, fun t h => by simp at h⟩
 | t :: T, hp, hb => by
  rw [List.pairwise_cons] at hp
  by_cases e : t = i
  ·subst e
   have h1 := drop_gt T hp.2 (fun x hx => hb x (by simp [hx]))
   simp only [List.dropWhile, BEq.rfl]
   exact ⟨h1.1, fun x hx => ⟨List.mem_cons_of_mem _ (h1.2 x hx).1, (h1.2 x hx).2⟩⟩
  ·have e2 : (t == i) = false := by simpa using e
   simp only [List.dropWhile, e2]
   have h2 := hb t (by simp)
   refine ⟨List.pairwise_cons.2 hp, fun x hx => ⟨hx, ?_⟩⟩
   rcases List.mem_cons.1 hx with rfl | hx
   ·omega
   ·have := hp.1 x hx; omega
theorem head_mono {e len : Int} (h : e ≤ len) (U : List Int) : U.headD e ≤ U.headD len := by
 cases U with
 | nil => exact h
 | cons => exact Int.le_refl _
theorem okFrom_app (len : Int) (ys : List Nd) : ∀ (xs : List Nd) (i e : Int) (T : List Int), e = i + xs.length → e ≤ len → T.Pairwise (· ≤ ·) → (∀ t ∈ T, i ≤ t ∧ t ≤ e) → okFrom e i T xs = true → okFrom len i T (xs ++ ys) = okFrom len e [] ys
 | [], i, e, T, he, hl, hp, hb, _ => by
  have he2 : e = i := by simpa using he
  subst he2
  exact okFrom_pads len e ys T (fun t ht => by have := hb t ht; omega)
 | x :: xs, i, e, T, he, hl, hp, hb, h => by
  simp only [okFrom, Bool.and_eq_true, decide_eq_true_eq] at h
  obtain ⟨⟨⟨h1, h2⟩, h3⟩, h4⟩ := h
  obtain ⟨d1, d2⟩ := drop_gt T hp (fun t ht => (hb t ht).1)
  have hk := good_kids h1
  have hm := head_mono hl (T.dropWhile (· == i))
  simp only [List.cons_append, okFrom, h1, h3, Bool.true_and, decide_eq_true (show x.kids ≤ (T.dropWhile (· == i)).headD len - i - 1 by omega)]
  simp only [List.length_cons] at he
  refine okFrom_app len ys xs (i + 1) e _ (by push_cast at he; omega) hl ?_ ?_ h4
  ·split
   ·refine List.pairwise_cons.2 ⟨fun t ht => ?_, d1⟩
    revert h2 ht d1
    cases T.dropWhile (· == i) with
    | nil => intro _ _ ht; simp at ht
    | cons u U =>
     intro h2 d1 ht
     rw [List.pairwise_cons] at d1
     simp only [List.headD_cons] at h2
     rcases List.mem_cons.1 ht with rfl | ht
     ·omega
     ·have := d1.1 t ht; omega
   ·exact d1
  ·intro t ht
   split at ht
   ·rcases List.mem_cons.1 ht with rfl | ht
    ·refine ⟨by omega, ?_⟩
     have hh : (T.dropWhile (· == i)).headD e ≤ e := by
      revert d2
      cases T.dropWhile (· == i) with
      | nil => intro _; exact Int.le_refl _
      | cons u U => intro d2; exact (hb u (d2 u (by simp)).1).2
     omega
    ·exact ⟨(d2 t ht).2, (hb t (d2 t ht).1).2⟩
   ·exact ⟨(d2 t ht).2, (hb t (d2 t ht).1).2⟩
theorem drop_shift (s i : Int) : ∀ T : List Int, (T.map (· + s)).dropWhile (· == i + s) = (T.dropWhile (· == i)).map (· + s)
 | [] => rfl
 | t :: T => by
  by_cases e : t = i
  ·subst e
   simp only [List.map_cons, List.dropWhile, BEq.rfl]
   exact drop_shift s t T
  ·have e1 : (t == i) = false := by simpa using e
   have e2 : (t + s == i + s) = false := by simp; omega
   simp only [List.map_cons, List.dropWhile, e1, e2]
theorem okFrom_shift (s len : Int) : ∀ (xs : List Nd) (i : Int) (T : List Int), okFrom (len + s) (i + s) (T.map (· + s)) xs = okFrom len i T xs
 | [], _, _ => rfl
 | x :: xs, i, T => by
  have hh : ((T.dropWhile (· == i)).map (· + s)).headD (len + s) = (T.dropWhile (· == i)).headD len + s := by cases T.dropWhile (· == i) <;> rfl
  have h0 := okFrom_shift s len xs (i + 1) (if deepB x then (i + 1 + x.kids) :: T.dropWhile (· == i) else T.dropWhile (· == i))
  simp only [okFrom, drop_shift, hh, List.length_map]
  have hd : decide (x.kids ≤ (T.dropWhile (· == i)).headD len + s - (i + s) - 1) = decide (x.kids ≤ (T.dropWhile (· == i)).headD len - i - 1) := decide_eq_decide.2 (by constructor <;> intro h <;> omega)
  rw [hd, ← h0, show i + 1 + s = i + s + 1 by omega]
  congr 2
  split
  ·simp only [List.map_cons]
   congr 1
   omega
  ·rfl
theorem list_app {xs ys : List Nd} (hx : listB xs = true) (hy : listB ys = true) : listB (xs ++ ys) = decide ((xs ++ ys).length ≤ 20000) := by
 unfold listB at hx hy ⊢
 rw [Bool.and_eq_true] at hx hy
 have h1 := okFrom_app ((xs ++ ys).length : Int) ys xs 0 (xs.length : Int) [] (by omega) (by rw [List.length_append]; omega) List.Pairwise.nil (fun t ht => by simp at ht) hx.2
 have h2 := okFrom_shift (xs.length : Int) (ys.length : Int) ys 0 []
 simp only [List.map_nil] at h2
 rw [h1, show (((xs ++ ys).length : Nat) : Int) = (ys.length : Int) + (xs.length : Int) by rw [List.length_append]; push_cast; omega, show (xs.length : Int) = 0 + (xs.length : Int) by omega]
 rw [show (0 : Int) + (xs.length : Int) = 0 + (xs.length : Int) from rfl] at h2
 rw [show (ys.length : Int) + (0 + (xs.length : Int)) = (ys.length : Int) + (xs.length : Int) by omega, h2, hy.2, Bool.and_true]
theorem hpR_list {xs : List Nd} {mode size : Int} (h : 0 < (hpR xs mode size).length) : listB (hpR xs mode size) = true := by
 unfold hpR at h ⊢
 split at h
 ·rename_i hok
  rw [if_pos hok]
  have hb := box_list (k := 6) (.inl rfl) (hpTo xs mode size) (hpS xs).h (hpS xs).d (hpL_len xs mode size) (glues_pair xs) (fun p hp => glues_in hp) (hpOk_parts hok).2.1
  unfold hpN
  rw [hb]
  unfold hpOk packB at hok
  simp only [Bool.and_eq_true] at hok ⊢
  obtain ⟨⟨⟨⟨⟨⟨⟨q1, _⟩, _⟩, _⟩, ⟨q5, _⟩⟩, q6⟩, q7⟩, q8⟩ := hok
  exact ⟨⟨q1, ⟨⟨q5, q6⟩, q7⟩⟩, q8⟩
 ·simp at h
theorem rowR_list {f : Nat → Int} {gs : Int} {gap : Nd} {co : Int} {r : Rw} (h : 0 < (rowR f gs gap co r).length) : listB (rowR f gs gap co r) = true := by
 unfold rowR at h ⊢
 split at h
 ·rename_i h1
  rw [if_pos h1]
  exact hpR_list h
 ·rename_i h1
  rw [if_neg h1]
  split at h
  ·rename_i h2
   rw [if_pos h2]
   exact hpR_list h
  ·simp at h
theorem rowR_le {f : Nat → Int} {gs : Int} {gap : Nd} {co : Int} {r : Rw} : (rowR f gs gap co r).length ≤ 20000 := by
 unfold rowR
 split
 ·exact hpR_le
 ·split
  ·exact hpR_le
  ·simp
def outK (f : Nat → Int) (gs : Int) (gap : Nd) (co : Int) (rs : List Rw) : Nat → List Nd
 | 0 => []
 | k + 1 => outK f gs gap co rs k ++ rowR f gs gap co (rs.getD k Rw.none)
def rowsOk (f : Nat → Int) (gs : Int) (gap : Nd) (co : Int) (rs : List Rw) : Nat → Bool
 | 0 => true
 | k + 1 => rowsOk f gs gap co rs k && decide (0 < (rowR f gs gap co (rs.getD k Rw.none)).length)
theorem rowsOk_down {f : Nat → Int} {gs : Int} {gap : Nd} {co : Int} {rs : List Rw} : ∀ {n k : Nat}, k ≤ n → rowsOk f gs gap co rs k = false → rowsOk f gs gap co rs n = false
 | 0, k, h, h0 => by
  obtain rfl : k = 0 := by omega
  exact h0
 | n + 1, k, h, h0 => by
  by_cases hk : k = n + 1
  ·subst hk; exact h0
  ·unfold rowsOk
   rw [rowsOk_down (show k ≤ n by omega) h0]
   rfl
theorem outK_mono (f : Nat → Int) (gs : Int) (gap : Nd) (co : Int) (rs : List Rw) : ∀ {n k : Nat}, k ≤ n → (outK f gs gap co rs k).length ≤ (outK f gs gap co rs n).length
 | 0, k, h => by
  obtain rfl : k = 0 := by omega
  exact Nat.le_refl _
 | n + 1, k, h => by
  by_cases hk : k = n + 1
  ·subst hk; exact Nat.le_refl _
  ·have := outK_mono f gs gap co rs (show k ≤ n by omega)
   simp only [outK, List.length_append]
   omega
theorem outK_le (f : Nat → Int) (gs : Int) (gap : Nd) (co : Int) (rs : List Rw) : ∀ k, (outK f gs gap co rs k).length ≤ 20000 * k
 | 0 => by simp [outK]
 | k + 1 => by
  have h1 := outK_le f gs gap co rs k
  have h2 : (rowR f gs gap co (rs.getD k Rw.none)).length ≤ 20000 := rowR_le
  simp only [outK, List.length_append]
  omega
theorem outK_list {f : Nat → Int} {gs : Int} {gap : Nd} {co : Int} {rs : List Rw} : ∀ {k : Nat}, rowsOk f gs gap co rs k = true → listB (outK f gs gap co rs k) = decide ((outK f gs gap co rs k).length ≤ 20000)
 | 0, _ => by simp [outK, listB, okFrom]
 | k + 1, h => by
  unfold rowsOk at h
  rw [Bool.and_eq_true, decide_eq_true_eq] at h
  have h1 := outK_list h.1
  have h2 := rowR_list h.2
  by_cases hl : (outK f gs gap co rs k).length ≤ 20000
  ·rw [decide_eq_true hl] at h1
   exact list_app h1 h2
  ·have hm := outK_mono f gs gap co rs (show k ≤ k + 1 by omega)
   rw [decide_eq_false (show ¬ (outK f gs gap co rs (k + 1)).length ≤ 20000 by omega)]
   unfold listB
   rw [decide_eq_false (by omega)]
   rfl
def stR (x : Tb) : List Nd := if (tabB x && (colsOk x.gs x.rs x.co.toNat && (rowsOk (colsStep x.gs x.rs x.co.toNat) x.gs (gapN x.gs x.gp x.gpo x.gm x.gmo) x.co x.rs x.rs.length && decide ((outK (colsStep x.gs x.rs x.co.toNat) x.gs (gapN x.gs x.gp x.gpo x.gm x.gmo) x.co x.rs x.rs.length).length ≤ 20000)))) = true then outK (colsStep x.gs x.rs x.co.toNat) x.gs (gapN x.gs x.gp x.gpo x.gm x.gmo) x.co x.rs x.rs.length else []
theorem stR_len (x : Tb) : (stR x).length ≤ 20000 := by
 unfold stR
 split
 ·rename_i h
  simp only [Bool.and_eq_true, decide_eq_true_eq] at h
  exact h.2.2.2
 ·simp
abbrev ndA (x : Nd) : Array Value := #[.int .i64 x.k, .int .i64 x.wd, .int .i64 x.ht, .int .i64 x.dp, .int .i64 x.sh, .int .i64 x.fo, .int .i64 x.ch, .int .i64 x.nn, .int .i64 x.gs, .int .i64 x.gp, .int .i64 x.gpo, .int .i64 x.gm, .int .i64 x.gmo, .string x.tx, .int .i64 x.kids]
theorem run_bsN (W : World) (x : Nd) : (Instr.buildSlice 24 1 #[(0, ndV x)]).run Tryz.prog W = .ok (.slice (some ⟨W.heap.size, 0, none⟩) 1 1) (W.alloc (.cells (ndA x) 36)) := by
 obtain ⟨k, wd, ht, dp, sh, fo, ch, nn, gs, gp, gpo, gm, gmo, tx, kids⟩ := x
 kernel_rfl
theorem flatN_app : ∀ xs ys : List Nd, flatN (xs ++ ys) = flatN xs ++ flatN ys
 | [], ys => by simp [flatN]
 | x :: xs, ys => by simp [flatN, flatN_app xs ys, List.append_assoc]
theorem nn_one {w : World} {g : Nat} {x : Nd} (h : w.heap[g]? = some (ndO x)) : NN 0 w (.slice (some ⟨g, 0, none⟩) 1 1) [x] := by
 refine .inr ⟨g, 0, 1, rfl, Nat.le_refl _, Nat.zero_le _, fun _ => (glt h), fun j u hj => ?_⟩
 rw [Nat.zero_add, cell_of_row _ _ j _ 36 _ h]
 have e : flatN [x] = (ndA x).toList := by simp [flatN, Nd.cells]
 rw [e] at hj
 simpa using hj
theorem wp_appN {w : World} {o : Oper} {a : Act} {K : Act → World → Prop} {Q : Exit → Act → World → Prop} (s x : Operand) (ho : o.op = .call { callee := .builtin .append, args := #[s, x], argTypes := #[24, 24] })
 (base : Nat) (v : Value) (n : Nat) (xs : List Nd) (hs : a.eval s = v) (hown : w.ownsRow base 36 15 v n (flatN xs)) (u : Value) (ys : List Nd) (hx : a.eval x = u) (hp : NN 0 w u ys) (hn : n + ys.length ≤ 5000000) (hbase : base ≤ w.heap.size)
 (h : ∀ v' w', w'.ownsRow base 36 15 v' (n + ys.length) (flatN (xs ++ ys)) → w.grownBy w' v.ownBlock → (v'.ownBlock = v.ownBlock ∨ v'.ownBlock = some w.heap.size) → K (a.put o.dst v') w') : o.wp Tryz.prog a w K Q := by
 obtain ⟨i0, hi, hz0, hz1, hz2⟩ := info_parts Tryz.info57c
 rcases hp with ⟨rfl, rfl⟩ | ⟨b, off, cap, rfl, hc, _, hb, hq⟩
 ·have hrun := run_append_owned_none (P := Tryz.prog) (w := w) base 24 o.type 36 i0 15 Tryz.underlying24 hi v n _ hown
  unfold Oper.wp
  simp [execOp, ho, resolve, invoke, builtin, hs, hx, hrun, Result.andThen]
  exact h v w (by simpa using hown) ⟨rfl, rfl, rfl, Nat.le_refl _, fun _ _ _ => rfl⟩ (.inl rfl)
 ·obtain ⟨v', w', hr, h2, h3, h4, h5⟩ := run_append_own_at (P := Tryz.prog) w base 24 o.type 36 i0 (ndV Nd.none) 15 128 Tryz.underlying24 hi hz0 hz1 hz2 rfl (by decide) v n _ hown ⟨b, off, none⟩ ys.length cap (flatN ys) (flatN_len ys) (fun j u hj => by
   have h9 := hq j u hj
   unfold Addr.add
   split
   ·rename_i e; have e2 : j = 0 := by simpa using e
    subst e2; exact h9
   ·exact h9) (flatN_one ys) (by unfold maxLen; omega) (by omega) hbase
  unfold Oper.wp execOp
  simp only [ho, resolve, invoke, builtin, Sem.run_bind, Sem.run_pure, Result.andThen_ok, List.map_toArray, List.map_cons, List.map_nil, hs, hx, hr]
  exact h v' w' (by rw [flatN_app]; exact h2) h3 h5
theorem wpList_appN {w : World} {ops : Array Oper} {rest : List Oper} {o : Oper} {a : Act} {Q : Exit → Act → World → Prop} (hgd : o.guard = none) (s x : Operand) (ho : o.op = .call { callee := .builtin .append, args := #[s, x], argTypes := #[24, 24] })
 (base : Nat) (v : Value) (n : Nat) (xs : List Nd) (hs : a.eval s = v) (hown : w.ownsRow base 36 15 v n (flatN xs)) (u : Value) (ys : List Nd) (hx : a.eval x = u) (hp : NN 0 w u ys) (hn : n + ys.length ≤ 5000000) (hbase : base ≤ w.heap.size)
 (h : ∀ v' w', w'.ownsRow base 36 15 v' (n + ys.length) (flatN (xs ++ ys)) → w.grownBy w' v.ownBlock → (v'.ownBlock = v.ownBlock ∨ v'.ownBlock = some w.heap.size) → wpList Tryz.prog ops Q rest (a.put o.dst v') w') : wpList Tryz.prog ops Q (o :: rest) a w :=
 wpList_plain hgd fun _ hK => wp_appN s x ho base v n xs hs hown u ys hx hp hn hbase fun v' w' h2 h3 h4 => hK _ _ (h v' w' h2 h3 h4)
theorem NN.bel {w w' : World} {v : Value} {xs : List Nd} (h : NN 0 w v xs) (hb : Below w.heap.size w w') : NN 0 w' v xs := by
 rcases h with h | ⟨b, off, cap, rfl, h1, h2, h3, h4⟩
 ·exact .inl h
 ·refine .inr ⟨b, off, cap, rfl, h1, h2, fun h => Nat.lt_of_lt_of_le (h3 h) hb.size, fun j u hj => ?_⟩
  have h0 : 0 < xs.length := by
   cases xs with
   | nil => simp [flatN] at hj
   | cons _ _ => simp
  exact (hb.cell (p := ⟨b, off + j, none⟩) (h3 h0)).trans (h4 j u hj)
theorem zeros_one (n : Nat) : ∀ v ∈ (Builtin.zeroCells (Value.cells (ndV Nd.none)) n).toList, v.oneCell' = true := by
 intro v hv
 have hz : ∀ i, i < 15 → ((Value.cells (ndV Nd.none))[i]!).oneCell' = true := by decide
 unfold Builtin.zeroCells at hv
 simp only [Array.toList_map, List.mem_map] at hv
 obtain ⟨i, _, rfl⟩ := hv
 exact hz _ (Nat.mod_lt _ (by decide))
theorem zero36 (w : World) : (zeroValue 36).run Tryz.prog w = .ok (ndV Nd.none) w := by kernel_rfl
theorem run_clearN {w : World} {g n cap : Nat} {cur : Array Value} (hg : w.heap[g]? = some (.cells cur 36 (0, 0))) (hs : n * 15 ≤ cur.size) (h0 : n ≠ 0) :
 ∃ cur' : Array Value, cur'.size = cur.size ∧ ∀ ty, (Builtin.clear_ #[24] ty #[.slice (some ⟨g, 0, none⟩) n cap]).run Tryz.prog w = .ok (.tuple #[]) (w.setRow g cur') := by
 have hz : (Builtin.zeroCells (Value.cells (ndV Nd.none)) n).toList.length = n * 15 := by simp [Builtin.zeroCells, Value.cells]
 have hr := run_storeCells_at (P := Tryz.prog) g 0 36 (Builtin.zeroCells (Value.cells (ndV Nd.none)) n).toList 0 cur w hg (by rw [hz]; omega) (zeros_one n)
 refine ⟨(cur.toList.take (0 + 0) ++ (Builtin.zeroCells (Value.cells (ndV Nd.none)) n).toList ++ cur.toList.drop (0 + 0 + (Builtin.zeroCells (Value.cells (ndV Nd.none)) n).toList.length)).toArray, ?_, fun ty => ?_⟩
 rotate_left
 ·obtain ⟨m, rfl⟩ : ∃ m, n = m + 1 := ⟨n - 1, by omega⟩
  simp only [Builtin.clear_, Sem.run_bind, run_underlying Tryz.underlying24, Result.andThen_ok, zero36, List.getElem?_toArray, List.getElem?_cons_zero]
  simp only [Sem.run_bind, zero36, Result.andThen_ok, hr, Sem.run_pure]
 ·simp only [List.size_toArray, List.length_append, List.length_take, List.length_drop, hz]
  simp
  omega
end Go.Proofs.YtojoehdmjkgnnaaGreat
