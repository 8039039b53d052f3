/-
  The program's list up to a delimiter.
-/
import Derived.Test.YtbceblgnjicdcaaXb
import Derived.Test.YtbceblgnjicdcaaXu
import Derived.Test.YtbceblgnjicdcaaEql
import Derived.Test.YtbceblgnjicdcaaUnt
namespace Go.Proofs.Ytbceblgnjicdcaa
open Go.RowKit
set_option linter.unusedVariables false
set_option linter.unusedSimpArgs false

theorem dep_zero : ∀ a : List Tk, (∀ t ∈ a, dl t = 0) → dep a = 0
  | [], _ => rfl
  | t :: a, h => by rw [dep_cons, h t (by simp), dep_zero a (fun u hu => h u (by simp [hu]))]; rfl
theorem dep_app (a b : List Tk) : dep (a ++ b) = dep a + dep b := by
  induction a with
  | nil => simp [dep_nil]
  | cons t a ih => rw [List.cons_append, dep_cons, dep_cons, ih]; omega
theorem dl_c {t u : Tk} (h : t.c = u.c) : dl t = dl u := by unfold dl; rw [h]
theorem rowB_dep {a b : List Tk} (h : rowB a b = true) (hb : ∀ t ∈ b, dl t = 0) : dep a = 0 := by
  unfold rowB at h
  simp only [Bool.and_eq_true, beq_iff_eq, List.all_eq_true, List.mem_range] at h
  refine dep_zero a (fun t ht => ?_)
  obtain ⟨i, hi, rfl⟩ := List.getElem_of_mem ht
  have h1 := h.2 i hi
  unfold tkEq at h1
  simp only [Bool.and_eq_true, decide_eq_true_eq] at h1
  have h2 := h1.1.1
  rw [show a.getD i Tk.none = a[i] by simp [List.getD, hi]] at h2
  have hi2 : i < b.length := by omega
  rw [show b.getD i Tk.none = b[i] by simp [List.getD, hi2]] at h2
  rw [dl_c h2]
  exact hb _ (List.getElem_mem hi2)
theorem strip_is {ts : List Tk} (hp : ∀ j, j ≤ ts.length → 0 ≤ dep (ts.take j)) (h0 : dep ts = 0) : strip ts = unw ts := by
  unfold strip unw
  rw [strip_unw hp h0]

/-- While a list is gathered: k tokens of rest are taken, o groups are open. -/
def LInv (w : World) (x g : Nat) (a : Option Addr) (n : Nat) (row rest : List Tk) (op : Value) (wr : World) : Prop :=
  ∃ (k o : Nat), op = .int .i64 o ∧ k ≤ n ∧ o ≤ k ∧ Xs wr x (rest.drop k) ∧ GH wr g (.slice a n n) k ∧ Fr x w wr ∧ TNb wr x (.slice a n n) rest ∧ unt row 0 [] rest = unt row o (rest.take k) (rest.drop k) ∧ (o : Int) = dep (rest.take k) ∧ (∀ j, j ≤ k → 0 ≤ dep (rest.take j))

set_option maxRecDepth 100000 in
set_option maxHeartbeats 8000000 in
theorem upto_any {w : World} {x rb roff m rcap : Nat} {rest row : List Tk} (h : Xs w x rest) (hl : rest.length ≤ 20000) (hrow : TOn 0 w (.slice (some ⟨rb, roff, none⟩) m rcap) row) (hrb : rb < x) (hm : 0 < m) (lm : m ≤ 1000) (hdl : ∀ t ∈ row, dl t = 0) :
    Calls Try.prog 111 #[ptr x, .slice (some ⟨rb, roff, none⟩) m rcap] w fun e w' => Fr x w w' ∧ (((unt row 0 [] rest).1 = 0 ∧ ∃ v, e = .returned v ∧ TNb w' x v (unt row 0 [] rest).2.1 ∧ Xs w' x (unt row 0 [] rest).2.2) ∨ ((unt row 0 [] rest).1 ≠ 0 ∧ e = up (unt row 0 [] rest).1)) := by
  have H : Hid (Xs w x rest) := h
  have hsz := h.lt
  have HROW : Hid (TOn 0 w (.slice (some ⟨rb, roff, none⟩) m rcap) row) := hrow
  have HRL : Hid (m = row.length) := by obtain ⟨_, _, _, e, _⟩ := hrow; simp at e; exact e.2.1
  have HDL0 : Hid (∀ t ∈ row, dl t = 0) := hdl
  clear h hrow hdl
  obtain ⟨U, hU⟩ : ∃ U, U = unt row 0 [] rest := ⟨_, rfl⟩
  have HU : Hid (U = unt row 0 [] rest) := hU
  rw [← hU]
  clear hU
  go_enter Try.func111, Try.ntmps111
  go_wp2_with fail
  refine (gather_any H hl).mono ?_
  rintro e w1 ⟨a, n, rfl, htn, hn, hb1⟩
  have B1 : Hid (Below w.heap.size w w1) := hb1
  have T1 : Hid (TNb w1 x (.slice a n n) rest) := htn
  have HN : Hid (n = rest.length) := hn
  have hn2 : n ≤ 20000 := by omega
  have X1 : Hid (Xs w1 x rest) := Xs.fr H hb1
  have hz1 : w.heap.size ≤ w1.heap.size := hb1.size
  clear htn hn hb1
  go_wp2_with fail
  obtain ⟨G, hG⟩ : ∃ G, G = w1.heap.size := ⟨_, rfl⟩
  have hGx : x < G := by omega
  have HG : Hid (G = w1.heap.size) := hG
  rw [← hG]
  have START : Hid (LInv w x G a n row rest (.int .i64 0) (w1.alloc (.cells #[.slice a n n, .int .i64 0] 173))) := by
    refine ⟨0, 0, rfl, Nat.zero_le _, Nat.le_refl _, by rw [List.drop_zero]; exact Xs.fr X1 (below1 _ _), ?_, Fr.below (Below.alloc B1 hz1 _) (by omega), TNb.below T1 (below1 _ _), ?_, by simp [dep_nil], fun j hj => ?_⟩
    · rw [hG]; exact Array.getElem?_push_size
    · rfl
    · rw [show j = 0 by omega]; simp [dep_nil]
  clear hG
  go_loopw [6] (fun op wr => Hid (LInv w x G a n row rest op wr)) (fun _ wr => n - (match wr.cell? ⟨G, 1, none⟩ with | some (.int .i64 k) => k.toNat | _ => 0))
  case atStart => exact START
  case round =>
    clear START X1 T1 B1
    obtain ⟨k, o, rfl, hkn, hok, hxs, hgh, hfr, htn, hgg, hdo, hdp⟩ := hrel
    obtain ⟨d, hd⟩ : ∃ d, d = rest.drop k := ⟨_, rfl⟩
    rw [← hd] at hxs hgg
    have HD : Hid (d = rest.drop k) := hd
    have HX : Hid (Xs wr x d) := hxs
    have HGH : Hid (GH wr G (.slice a n n) k) := hgh
    have HFR : Hid (Fr x w wr) := hfr
    have HTN : Hid (TNb wr x (.slice a n n) rest) := htn
    have HGG : Hid (U = unt row o (rest.take k) d) := (show U = _ from HU).trans hgg
    have HDO : Hid ((o : Int) = dep (rest.take k) ∧ (∀ j, j ≤ k → 0 ≤ dep (rest.take j))) := ⟨hdo, hdp⟩
    have hzr : w.heap.size ≤ wr.heap.size := hfr.size
    have hGr : G < wr.heap.size := hgh.cells.2.2.1
    clear hxs hgh hfr htn hgg hd hdo hdp
    match d, HD, HX, HGG with
    | [], HD, HX, HGG =>
      have HUU : Hid (U.1 = 1) := by show U.1 = 1; rw [show U = _ from HGG]; rfl
      go_wp2_with fail
      refine (take_none HX).mono ?_
      rintro e w3 ⟨rfl, hb3⟩
      have FIN : Hid (Fr x w w3) := Fr.more HFR (hb3.mono hzr) (by omega)
      clear hb3
      go_wp2
      exact ⟨rfl, FIN, .inr ⟨by rw [show U.1 = 1 from HUU]; decide, by rw [show U.1 = 1 from HUU]⟩⟩
    | t :: r, HD, HX, HGG =>
      have hrl : r.length + 1 + k = n := by
        have := congrArg List.length (show t :: r = _ from HD)
        rw [List.length_drop, ← show n = rest.length from HN, List.length_cons] at this
        omega
      obtain ⟨b, off, rfl⟩ : ∃ b off, a = some ⟨b, off, none⟩ := by
        rcases HTN with ⟨h, _⟩ | ⟨b, off, n', cap', h, _⟩
        · simp at h; omega
        · simp at h; exact ⟨b, off, h.1⟩
      go_wp2_with fail
      refine (take_some HX (by omega)).mono ?_
      rintro e w3 ⟨rfl, hx3, hf3⟩
      have z3 : wr.heap.size ≤ w3.heap.size := hf3.size
      have P3 : Hid (Xs w3 x r ∧ Fr x w w3 ∧ GH w3 G (.slice (some ⟨b, off, none⟩) n n) k ∧ TNb w3 x (.slice (some ⟨b, off, none⟩) n n) rest) := ⟨hx3, HFR.trans hf3, GH.fr HGH hf3 hGx, TNb.fr HTN hf3⟩
      have HW : Hid (∀ W, Below w3.heap.size w3 W → Calls Try.prog 139 #[t.v] W fun e w' => e = .returned (.int .i64 (dl t)) ∧ Below W.heap.size W w') := fun W _ => nesting_any t W
      obtain ⟨tc, th, ts⟩ := t
      rw [show (⟨tc, th, ts⟩ : Tk).v = tokV tc th ts from rfl]
      rw [show (⟨tc, th, ts⟩ : Tk).v = tokV tc th ts from rfl] at HW
      obtain ⟨δ, hδ⟩ : ∃ δ, δ = dl ⟨tc, th, ts⟩ := ⟨_, rfl⟩
      rw [← hδ] at HW
      have HDL : Hid (δ = dl ⟨tc, th, ts⟩) := hδ
      have hd1 : -1 ≤ δ ∧ δ ≤ 1 := by rw [hδ]; unfold dl; split <;> (try split) <;> omega
      clear hx3 hf3 hδ
      go_wp2_with fail
      refine (HW _ (below1 _ _)).mono ?_
      rintro e w4 ⟨rfl, hb4⟩
      have B4 : Hid (Below w3.heap.size w3 w4) := below_more (below1 _ _) hb4 (by simp)
      have q4 : w4.heap[w3.heap.size]? = some (.cells #[.int .i64 tc, .int .i64 th, .string ts] 31) := by rw [hb4.block _ (by simp)]; exact Array.getElem?_push_size
      have z4 : w3.heap.size < w4.heap.size := by have := hb4.size; simp at this; omega
      have t0 : w4.cell? ⟨w3.heap.size, 0, none⟩ = some (.int .i64 tc) := by rw [cell_of_row w4 _ _ _ 31 _ q4]; rfl
      have t1 : w4.cell? ⟨w3.heap.size, 1, none⟩ = some (.int .i64 th) := by rw [cell_of_row w4 _ _ _ 31 _ q4]; rfl
      have t2 : w4.cell? ⟨w3.heap.size, 2, none⟩ = some (.string ts) := by rw [cell_of_row w4 _ _ _ 31 _ q4]; rfl
      have G4 : Hid (GH w4 G (.slice (some ⟨b, off, none⟩) n n) k) := GH.below P3.2.2.1 B4
      have F4 : Hid (Fr x w w4) := Fr.more P3.2.1 (Below.mono B4 (by omega)) (by omega)
      clear hb4 q4 HW
      by_cases hneg : (o : Int) + δ < 0
      · have HUU : Hid (U.1 = 3) := by show U.1 = 3; rw [show U = _ from HGG, unt_dead (by rw [← show δ = _ from HDL]; exact hneg)]
        go_wp2
        exact ⟨rfl, F4, .inr ⟨by rw [show U.1 = 3 from HUU]; decide, by rw [show U.1 = 3 from HUU]⟩⟩
      · obtain ⟨o', ho'⟩ : ∃ o' : Nat, (o : Int) + δ = (o' : Int) := ⟨((o : Int) + δ).toNat, by omega⟩
        have HO' : Hid ((o : Int) + δ = (o' : Int)) := ho'
        have hnb : ¬ (o' : Int) < 0 := by omega
        have ho20 : o' ≤ k + 1 := by omega
        clear hneg
        go_wp2_with fail
        refine (add_any (t := ⟨tc, th, ts⟩) G4 (by omega) hn2).mono ?_
        rintro e w5 ⟨rfl, hg5, hf5⟩
        obtain ⟨K, hK⟩ : ∃ K, K = k + 1 := ⟨_, rfl⟩
        rw [← hK] at hg5
        have hw1 := show G = w1.heap.size from HG
        have P5 : Hid (Xs w5 x r ∧ Fr x w w5 ∧ TNb w5 x (.slice (some ⟨b, off, none⟩) n n) rest ∧ GH w5 G (.slice (some ⟨b, off, none⟩) n n) K) := ⟨Xs.bel (Xs.fr P3.1 B4) (hf5.1.mono (by omega)), Fr.more F4 (hf5.1.mono (by omega)) (by omega), TNb.bel (TNb.below P3.2.2.2 B4) (hf5.1.mono (by omega)), hg5⟩
        have R5 : Hid (TOn 0 w5 (.slice (some ⟨rb, roff, none⟩) m rcap) row) := TOn.fr HROW hrb P5.2.1
        have hdr : rest.drop K = r := by
          have := congrArg (List.drop 1) (show ⟨tc, th, ts⟩ :: r = _ from HD)
          rw [List.drop_drop] at this
          rw [hK]
          simpa using this.symm
        have htk : rest.take K = rest.take k ++ [⟨tc, th, ts⟩] := by
          rw [hK, List.take_add_one]
          have : rest[k]? = some ⟨tc, th, ts⟩ := by
            have h2 := congrArg (fun l => l[0]?) (show ⟨tc, th, ts⟩ :: r = _ from HD)
            simpa using h2.symm
          rw [this]; rfl
        have hdK : (o' : Int) = dep (rest.take K) := by rw [htk, dep_app, ← HDO.1, dep_cons, dep_nil, ← show δ = _ from HDL, ← show (o : Int) + δ = _ from HO']; omega
        have hdpK : ∀ j, j ≤ K → 0 ≤ dep (rest.take j) := fun j hj => by
          rcases Nat.lt_or_ge j K with h | h
          · exact HDO.2 j (by omega)
          · rw [show j = K by omega, ← hdK]; omega
        have NEXT : Hid (¬ (o' = 0 ∧ tailB (rest.take K) row = true) → ∀ W, Below w5.heap.size w5 W → LInv w x G (some ⟨b, off, none⟩) n row rest (.int .i64 (o' : Int)) W ∧ n - (match W.cell? ⟨G, 1, none⟩ with | some (.int .i64 k) => k.toNat | _ => 0) < n - (match wr.cell? ⟨G, 1, none⟩ with | some (.int .i64 k) => k.toNat | _ => 0)) := by
          intro hno W hW
          have hgW := GH.below P5.2.2.2 hW
          refine ⟨⟨K, o', rfl, by omega, by omega, by rw [hdr]; exact Xs.fr P5.1 hW, hgW, Fr.more P5.2.1 (hW.mono P5.2.1.size) (by omega), TNb.below P5.2.2.1 hW, ?_, hdK, hdpK⟩, ?_⟩
          · rw [← show U = _ from HU, show U = _ from HGG, hdr, htk]
            refine unt_on (by rw [← show δ = _ from HDL]; exact HO') (by omega) (fun h => hno ⟨by omega, ?_⟩)
            rw [htk]; exact h.2
          · rw [(GH.cells hgW).2.1, (GH.cells HGH).2.1]
            show n - ((K : Nat) : Int).toNat < n - (k : Int).toNat
            omega
        have ENDS : Hid (o' = 0 → tailB (rest.take K) row = true → U = (0, unw ((rest.take K).take (K - m)), r)) := by
          intro h0 htl
          have hlK : (rest.take K).length = K := by rw [List.length_take]; have := show n = rest.length from HN; omega
          have hml := tailB_len htl
          have hmr := show m = row.length from HRL
          rw [hlK] at hml
          have hdz : dep ((rest.take K).take (K - m)) = 0 := by
            have e1 : dep (rest.take K) = dep ((rest.take K).take (K - m)) + dep ((rest.take K).drop (K - m)) := by rw [← dep_app, List.take_append_drop]
            unfold tailB at htl
            simp only [Bool.and_eq_true] at htl
            rw [hlK, ← hmr] at htl
            have e2 := rowB_dep htl.2 HDL0
            omega
          rw [show U = _ from HGG, unt_end (by rw [← show δ = _ from HDL, show (o : Int) + δ = _ from HO']; omega) (by rw [← htk]; exact htl)]
          rw [← htk, show (rest.take k).length + 1 - row.length = K - m by rw [List.length_take]; have := show n = rest.length from HN; omega]
          rw [strip_is (fun j hj => ?_) hdz]
          rw [List.take_take, List.take_take]
          exact hdpK _ (by omega)
        have HK : Hid (K = k + 1) := hK
        obtain ⟨u0, u1, hG5, hGz⟩ := GH.cells P5.2.2.2
        have hK20 : K ≤ 20000 := by omega
        have hKn : K ≤ n := by omega
        clear hg5 hf5 hdr htk hdK hdpK P3 hK hw1
        by_cases hKm : m ≤ K
        · obtain ⟨S, hS⟩ : ∃ S, K = S + m := ⟨K - m, by omega⟩
          have hs1 : (K : Int) - (m : Int) = (S : Int) := by omega
          have hs2 : (0 : Int) ≤ (S : Int) := by omega
          have hs3 : ((S : Int) == 20000) = false := beq_eq_false_iff_ne.2 (by omega)
          by_cases h0 : o' = 0
          · subst h0
            obtain ⟨bq, hbq⟩ : ∃ bq, bq = rowB ((rest.take K).drop S) row := ⟨_, rfl⟩
            have TT : TOn 0 w5 (.slice (some ⟨b, off, none⟩) n n) rest ∧ b < x := by
              rcases P5.2.2.1 with ⟨h, _⟩ | ⟨b', off', n', cap', h, hb', ht⟩
              · simp at h
              · simp at h
                obtain ⟨⟨rfl, rfl⟩, rfl, rfl⟩ := h
                exact ⟨ht, hb'⟩
            have HTT : Hid (TOn 0 w5 (.slice (some ⟨b, off, none⟩) n n) rest ∧ b < x) := TT
            have hlK : (rest.take K).length = K := by rw [List.length_take]; have := show n = rest.length from HN; omega
            have HTL : Hid (tailB (rest.take K) row = bq) := by
              show tailB _ _ = bq
              unfold tailB
              rw [hlK, ← show m = row.length from HRL, decide_eq_true hKm, hbq, show K - m = S by omega]
              rfl
            have HEQ : Hid (Calls Try.prog 141 #[.slice (some ⟨b, off + S * 3, none⟩) m (n - S), .slice (some ⟨rb, roff, none⟩) m rcap] w5 fun e w' => e = .returned (.bool bq) ∧ Below w5.heap.size w5 w') := by
              rw [hbq]
              refine equal_any (TOn.row (lo := 0) ?_) (TOn.row R5) (by rw [List.length_drop, hlK]; omega) (by rw [← show m = row.length from HRL]; omega)
              have h1 := TOn.drop (TOn.take TT.1 (k := K) hKn) (k := S) (by omega)
              rw [show K - S = m by omega] at h1
              exact h1
            have HKS : Hid (K = S + m) := hS
            clear hbq TT hlK
            go_wp2_with fail
            refine HEQ.mono ?_
            rintro e w6 ⟨rfl, hb6⟩
            have B6 : Hid (Below w5.heap.size w5 w6) := hb6
            obtain ⟨v0, v1, hG6, _⟩ := GH.cells (GH.below P5.2.2.2 hb6)
            clear hb6 HEQ u0 u1
            cases bq
            · have hh := NEXT (fun h => by have := h.2; rw [show tailB _ _ = false from HTL] at this; exact Bool.false_ne_true this) _ B6
              have HH : Hid (LInv w x G (some ⟨b, off, none⟩) n row rest (.int .i64 ((0 : Nat) : Int)) w6 ∧ n - (match w6.cell? ⟨G, 1, none⟩ with | some (.int .i64 k) => k.toNat | _ => 0) < n - (match wr.cell? ⟨G, 1, none⟩ with | some (.int .i64 k) => k.toNat | _ => 0)) := hh
              clear hh NEXT ENDS
              go_wp2
              go_roundw
              case rel => exact HH.1
              case measure => exact HH.2
            · have HUE := ENDS (by first | trivial | rfl) HTL
              have HUW : Hid (U = (0, unw ((rest.take K).take (K - m)), r)) := HUE
              have hSn : (S : Int) ≤ (n : Int) := by omega
              have HUN : Hid (Calls Try.prog 142 #[.slice (some ⟨b, off, none⟩) S n] w6 fun e w' => ∃ off' n' cap', e = .returned (.slice (some ⟨b, off', none⟩) n' cap') ∧ TOn 0 w6 (.slice (some ⟨b, off', none⟩) n' cap') (unw ((rest.take K).take (K - m))) ∧ Below w6.heap.size w6 w') := by
                refine unwrapped_any ?_ (by omega) (by omega)
                have h1 := TOn.take (TOn.take (TOn.below HTT.1 B6) (k := K) hKn) (k := S) (by omega)
                rw [show K - m = S by have := show K = S + m from HKS; omega]
                exact h1
              clear HUE NEXT ENDS
              go_wp2_with fail
              refine HUN.mono ?_
              rintro e w7 ⟨off', n', cap', rfl, ht7, hb7⟩
              have FIN : Hid (Fr x w w7 ∧ TNb w7 x (.slice (some ⟨b, off', none⟩) n' cap') U.2.1 ∧ Xs w7 x U.2.2 ∧ U.1 = 0) := by
                have z6 := Below.size B6
                have hf5 := P5.2.1
                refine ⟨Fr.more (Fr.more hf5 (Below.mono B6 hf5.size) (by omega)) (hb7.mono (by have := hf5.size; omega)) (by omega), ?_, ?_, ?_⟩
                · rw [show U = _ from HUW]; exact .inr ⟨_, _, _, _, rfl, HTT.2, TOn.below ht7 hb7⟩
                · rw [show U = _ from HUW]; exact Xs.fr (Xs.fr P5.1 B6) hb7
                · rw [show U = _ from HUW]
              clear ht7 hb7 HUN
              go_wp2
              go_ret
              exact ⟨FIN.1, .inl ⟨FIN.2.2.2, _, rfl, FIN.2.1, FIN.2.2.1⟩⟩
          · have h0b : ((o' : Int) == 0) = false := beq_eq_false_iff_ne.2 (by omega)
            have hh := NEXT (fun h => h0 h.1) _ (Below.refl _ _)
            have HH : Hid (LInv w x G (some ⟨b, off, none⟩) n row rest (.int .i64 (o' : Int)) w5 ∧ n - (match w5.cell? ⟨G, 1, none⟩ with | some (.int .i64 k) => k.toNat | _ => 0) < n - (match wr.cell? ⟨G, 1, none⟩ with | some (.int .i64 k) => k.toNat | _ => 0)) := hh
            clear hh NEXT ENDS
            go_wp2
            go_roundw
            case rel => exact HH.1
            case measure => exact HH.2
        · have hs1 : ¬ (0 : Int) ≤ (K : Int) - (m : Int) := by omega
          have hs3 : ((K : Int) - (m : Int) == 20000) = false := beq_eq_false_iff_ne.2 (by omega)
          have hh := NEXT (fun h => by have := tailB_len h.2; have h5 := show m = row.length from HRL; rw [List.length_take] at this; omega) _ (Below.refl _ _)
          have HH : Hid (LInv w x G (some ⟨b, off, none⟩) n row rest (.int .i64 (o' : Int)) w5 ∧ n - (match w5.cell? ⟨G, 1, none⟩ with | some (.int .i64 k) => k.toNat | _ => 0) < n - (match wr.cell? ⟨G, 1, none⟩ with | some (.int .i64 k) => k.toNat | _ => 0)) := hh
          clear hh NEXT ENDS
          by_cases h0 : o' = 0
          · subst h0
            go_wp2
            go_roundw
            case rel => exact HH.1
            case measure => exact HH.2
          · have h0b : ((o' : Int) == 0) = false := beq_eq_false_iff_ne.2 (by omega)
            go_wp2
            go_roundw
            case rel => exact HH.1
            case measure => exact HH.2
end Go.Proofs.Ytbceblgnjicdcaa
