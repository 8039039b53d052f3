/-
  A page of a stack: the specification.
-/
import Derived.Test.YtjagagbelpihbaaSpi
import Derived.Test.YtjagagbelpihbaaPbi
import Derived.Test.YtjagagbelpihbaaPgl
import Derived.Test.YtjagagbelpihbaaEds
namespace Go.Proofs.Ytjagagbelpihbaa
open Go.RowKit
set_option linter.unusedVariables false
set_option linter.unusedSimpArgs false

theorem Heads.mono {lo lo' : Nat} {w : World} {v : Value} {ys : List It} (h : Heads lo w v ys) (hl : lo' ≤ lo) : Heads lo' w v ys := by
  obtain ⟨ao, cap, rfl, hc⟩ := h.is
  refine ⟨ao, cap, rfl, fun hp => ?_⟩
  obtain ⟨b, off, rfl, hlo, hlt, hcell⟩ := hc hp
  refine ⟨b, off, rfl, by omega, hlt, fun i hi => ?_⟩
  obtain ⟨u, rest, h1, h2⟩ := hcell i hi
  exact ⟨u, rest, h1, SRow.mono ndStable h2 hl⟩
theorem wpList_append_at {P : Program} {w : World} {ops : Array Oper} {rest : List Oper} {o : Oper} {a : Act} {Q : Exit → Act → World → Prop} (hgd : o.guard = none) (s x : Operand) (t : TypeId)
    (ho : o.op = .call { callee := .builtin .append, args := #[s, x], argTypes := #[t, t] })
    (base : Nat) (e : TypeId) (i : TypeInfo) (z : Value) (size bytes : Nat) (ht : P.underlying t = some (.slice e)) (hi : P.info? e = some i) (hz : i.zero = some z)
    (hsize : i.size = size) (hby : i.bytes = bytes) (hzs : z.cells.size = size) (hsz : 0 < size)
    (v : Value) (n : Nat) (xs : List Value) (hs : a.eval s = v) (hown : w.ownsRow base e size v n xs)
    (ad : Addr) (m c : Nat) (news : List Value) (hx : a.eval x = .slice (some ad) m c) (hl : news.length = m * size) (hnews : ∀ j u, news[j]? = some u → w.cell? (ad.add j) = some u) (h1 : ∀ u ∈ news, u.oneCell' = true)
    (h63 : n + m ≤ maxLen) (hbytes : (n + m) * bytes ≤ 140737488355328) (hbase : base ≤ w.heap.size)
    (h : ∀ v' w', w'.ownsRow base e size v' (n + m) (xs ++ news) → w.grownBy w' v.ownBlock → (v'.ownBlock = v.ownBlock ∨ v'.ownBlock = some w.heap.size) → wpList P ops Q rest (a.put o.dst v') w') : wpList P ops Q (o :: rest) a w :=
  wpList_plain hgd fun _ hK => wp_append_at s x t ho base e i z size bytes ht hi hz hsize hby hzs hsz v n xs hs hown ad m c news hx hl hnews h1 h63 hbytes hbase fun v' w' h2 h3 _ h5 => hK _ _ (h v' w' h2 h3 h5)
theorem heads_of {w : World} {base : Nat} {u : Value} {vs : List Value} {xs : List Nd} (hob : listB xs = true) (ho : w.ownsRow base 25 1 u (itemsOf xs).length vs) (hL : Lsts base w vs (fun i => (itemsOf xs).getD i [])) : Heads base w u (its xs) ∧ (itemsOf xs).length = (its xs).length := by
  have hlen : (itemsOf xs).length = (its xs).length := by unfold itemsOf its; rw [if_pos hob, List.length_map, List.length_map]
  have hvl := own25_len ho
  obtain ⟨ao, cap, rfl, hg⟩ := own25_shape ho
  refine ⟨⟨ao, cap, by rw [hlen], fun hp => ?_⟩, hlen⟩
  obtain ⟨g, rfl, hgb, hlt⟩ := hg (by omega)
  refine ⟨g, 0, rfl, hgb, hlt, fun i hi => ?_⟩
  have hu : vs[i]? = some (vs[i]'(by omega)) := List.getElem?_eq_getElem (by omega)
  have h1 : w.cell? ⟨g, 0 + i, none⟩ = some (vs[i]'(by omega)) := by rw [Nat.zero_add]; exact (own25_cell ho hu).1
  have h2 := own_NRow (hL.own i _ hu) rfl
  obtain ⟨u, hue⟩ : ∃ u, u = vs[i]'(by omega) := ⟨_, rfl⟩
  rw [← hue] at h1 h2
  have hi2 : i < (starts xs (xs.length + 1) 0).length := by simpa [its] using hi
  have hst := starts_lt xs (xs.length + 1) 0 _ (List.getElem_mem hi2)
  have e1 : (itemsOf xs).getD i [] = itemAt xs ((starts xs (xs.length + 1) 0)[i]) := by
    unfold itemsOf
    rw [if_pos hob]
    simp [List.getD, List.getElem?_map, List.getElem?_eq_getElem hi2]
  have e2 : (its xs).getD i It.none = itAt xs ((starts xs (xs.length + 1) 0)[i]) := by
    unfold its
    simp [List.getD, List.getElem?_map, List.getElem?_eq_getElem hi2]
  obtain ⟨p, hp⟩ : ∃ p, p = (starts xs (xs.length + 1) 0)[i] := ⟨_, rfl⟩
  rw [← hp] at e1 e2 hst
  have e3 : itemAt xs p = xs.getD p Nd.none :: (itemAt xs p).tail := by
    unfold itemAt
    have hd : xs.drop p = xs[p] :: xs.drop (p + 1) := List.drop_eq_getElem_cons hst
    rw [hd, Nat.add_comm 1, List.take_succ_cons]
    simp [List.getD, List.getElem?_eq_getElem hst]
  refine ⟨u, (itemAt xs p).tail, h1, ?_⟩
  rw [e2]
  show NRow base w u (xs.getD p Nd.none :: (itemAt xs p).tail)
  rw [← e3, ← e1]
  exact h2

set_option maxHeartbeats 4000000 in
theorem specStack_any {v : Value} {xs : List Nd} {w : World} (h : NRow 0 w v xs) (hs : xs.length ≤ 1048576) (hcp : ∀ a n c, v = .slice a n c → n ≤ c ∧ c ≤ 9223372036854775807) :
    Calls Try.prog 43 #[v] w fun e W' => (listB xs = false → ∃ u, e = .returned (.tuple #[u, .bool false])) ∧ (listB xs = true → ∃ u, e = .returned (.tuple #[u, .bool (decide (((its xs).length : Int) ≤ 4000))]) ∧ Heads w.heap.size W' u (its xs)) ∧ Below w.heap.size w W' := by
  have LC : Hid (∀ W, Below w.heap.size w W → Calls Try.prog 9 #[v] W fun e w' => e = .returned (.bool (listB xs)) ∧ Below W.heap.size W w') := hideP (fun W hW => specListOk_any (SRow.below ndStable h hW) hs)
  have IC : Hid (listB xs = true → ∀ W, Below w.heap.size w W → Calls Try.prog 13 #[v] W fun e W' => (∃ u cap, e = .returned (.slice u (its xs).length cap) ∧ Heads W.heap.size W' (.slice u (its xs).length cap) (its xs)) ∧ Below W.heap.size W W') := hideP (fun ho W hW => by
    refine (specItems_any (SRow.below ndStable h hW) hs hcp).mono ?_
    rintro e W' ⟨⟨u, vs, rfl, h1, h2⟩, h3⟩
    obtain ⟨hh, hlen⟩ := heads_of ho h1 h2
    obtain ⟨ao, cap, rfl, _⟩ := own25_shape h1
    rw [hlen] at hh ⊢
    exact ⟨⟨ao, cap, rfl, hh⟩, h3⟩)
  obtain ⟨ao, n, cap, rfl, hl, hr⟩ := h
  obtain ⟨ob, hob⟩ : ∃ ob, ob = listB xs := ⟨_, rfl⟩
  rw [← hob] at LC IC ⊢
  clear hr hl hcp hob
  have IC2 : Hid (ob = true → _) := IC
  clear IC
  go_enter Try.func43, Try.ntmps43
  go_wp2_with fail
  refine (LC.out _ (by first | exact Below.refl _ _ | exact below1 _ _)).mono ?_
  rintro e w2 ⟨rfl, hb2⟩
  have B2 : Hid (Below w.heap.size w w2) := hideP (by first | exact hb2 | exact below_more (below1 _ _) hb2 (by simp))
  clear hb2
  cases hq : ob with
  | false =>
    subst hq
    clear IC2 LC
    go_wp2
    exact bodyPost_ret (v := .tuple #[.slice (some ⟨w2.heap.size, 0, none⟩) 0 0, .bool false]) (by simp [results, Try.results43, go_sem]) rfl ⟨⟨_, rfl⟩, B2.out.alloc B2.out.size _⟩
  | true =>
    have IC3 := hideP (IC2.out hq)
    subst hq
    clear IC2 LC
    go_wp2_with fail
    refine (IC3.out _ B2.out).mono ?_
    rintro e w3 ⟨⟨u, uc, rfl, hh⟩, hb3⟩
    have B3 : Hid (Below w.heap.size w w3) := hideP (below_more B2.out hb3 B2.out.size)
    have HH := hideP hh
    clear hb3 hh
    go_wp2
    exact bodyPost_ret (v := .tuple #[.slice u (its xs).length uc, .bool (decide (((its xs).length : Int) ≤ 4000))]) (by simp [results, Try.results43, go_sem]) rfl ⟨⟨_, rfl, HH.out.mono B2.out.size⟩, B3.out⟩

set_option maxRecDepth 20000 in
set_option maxHeartbeats 8000000 in
theorem specPB_any {v : Value} {xs : List Nd} {w : World} (h : NRow 0 w v xs) (hs : xs.length ≤ 1048576) (hcp : ∀ a n c, v = .slice a n c → n ≤ c ∧ c ≤ 9223372036854775807) :
    Calls Try.prog 25 #[v] w fun e W' => (∃ u, e = .returned u ∧ W'.ownsRow w.heap.size 2 1 u (pbL xs).length ((pbL xs).map (Value.int .i64))) ∧ Below w.heap.size w W' := by
  have SC : Hid (∀ W, Below w.heap.size w W → Calls Try.prog 43 #[v] W fun e W' => (listB xs = false → ∃ u, e = .returned (.tuple #[u, .bool false])) ∧ (listB xs = true → ∃ u, e = .returned (.tuple #[u, .bool (decide (((its xs).length : Int) ≤ 4000))]) ∧ Heads W.heap.size W' u (its xs)) ∧ Below W.heap.size W W') := hideP (fun W hW => specStack_any (SRow.below ndStable h hW) hs hcp)
  have hN20 : listB xs = true → (its xs).length ≤ 20001 := fun ho => its_le (allOk ho)
  obtain ⟨ao, n, cap, rfl, hl, hr⟩ := h
  obtain ⟨ob, hob⟩ : ∃ ob, ob = listB xs := ⟨_, rfl⟩
  rw [← hob] at SC hN20
  have HOB := hideP hob
  obtain ⟨L, hL⟩ : ∃ L, L = pbL xs := ⟨_, rfl⟩
  rw [← hL]
  have HLL := hideP hL
  clear hob hr hl hcp hL
  go_enter Try.func25, Try.ntmps25
  go_wp2_with fail
  have B1 : Below w.heap.size w (w.alloc (.cells #[] 2)) := below1 _ _
  refine (SC.out _ B1).mono ?_
  rintro e w2 ⟨hf, ht, hb2⟩
  have B2 : Below w.heap.size w w2 := below_more B1 hb2 (by simp)
  have q2 : w2.heap[w.heap.size]? = some (.cells #[] 2 (0, 0)) := (hb2.block _ (by simp)).trans (heap_alloc_new _ _)
  have O2 : w2.ownsRow w.heap.size 2 1 (.slice (some ⟨w.heap.size, 0, none⟩) 0 0) 0 [] := ⟨rfl, .inr ⟨_, _, _, rfl, by omega, q2, by omega, by unfold maxLen; omega, rfl, rfl⟩⟩
  have HB2 := hideP B2
  have HO2 := hideP O2
  clear hb2 q2 B1 B2 O2 SC
  cases ob with
  | false =>
    obtain ⟨u, rfl⟩ := hf rfl
    have HE : Hid (L = []) := hideP (by rw [HLL.out]; unfold pbL; rw [if_neg (by rw [← HOB.out]; simp)])
    clear ht hf
    go_wp2
    go_loopw [3, 6] (fun s3 s6 wr => s3 = .slice (some ⟨w.heap.size, 0, none⟩) 0 0 ∧ s6 = .int .i64 0 ∧ wr = w2) (fun _ _ _ => 0)
    case atStart => exact ⟨rfl, rfl, rfl⟩
    case round =>
      obtain ⟨rfl, rfl, rfl⟩ := hrel
      go_wp2
      go_ret
      refine ⟨⟨_, rfl, ?_⟩, HB2.out⟩
      rw [HE.out]
      exact HO2.out
  | true =>
    obtain ⟨u, rfl, hh⟩ := ht rfl
    obtain ⟨N, hN⟩ : ∃ N, N = (its xs).length := ⟨_, rfl⟩
    have hN2 := hN20 rfl
    rw [← hN] at hN2 ⊢
    have HN := hideP hN
    obtain ⟨uu, uc, rfl, _⟩ := hh.is
    rw [← hN] at hh ⊢
    by_cases h4 : (N : Int) ≤ 4000
    · have h4b : decide ((N : Int) ≤ 4000) = true := decide_eq_true h4
      rw [h4b]
      have HH := hideP hh
      clear hf hN hh hN20
      have HF0 : Hid (w2.ownsRow w.heap.size 2 1 (.slice (some ⟨w.heap.size, 0, none⟩) 0 0) (fl (its xs) 0).length ((fl (its xs) 0).map (Value.int .i64))) := HO2
      go_wp2
      go_loopw [3, 6] (fun s3 s6 wr => ∃ (k : Nat) (u : Value), k ≤ N + 1 ∧ s6 = .int .i64 k ∧ s3 = u ∧ wr.ownsRow w.heap.size 2 1 u (fl (its xs) k).length ((fl (its xs) k).map (Value.int .i64)) ∧ (∀ gg, u.ownBlock = some gg → gg = w.heap.size ∨ w2.heap.size ≤ gg) ∧ Abv (w.alloc (.cells #[] 2)).heap.size w2 wr ∧ Below w.heap.size w wr) (fun _ s _ => N + 1 - (intOf s).toNat)
      case atStart => exact ⟨0, _, by omega, rfl, rfl, HF0.out, fun gg e => .inl (by simpa [Value.ownBlock] using e.symm), Abv.refl _ _, HB2.out⟩
      case round =>
        obtain ⟨k, u, hk, rfl, rfl, ho, hgg, hav, hB⟩ := hrel
        have hhr := HH.out.abv hav
        have HGG := hideP hgg
        have HAV := hideP hav
        by_cases hkN : k < N + 1
        · have hki : (k : Int) ≤ (N : Int) := by omega
          have BC : Hid (Calls Try.prog 44 #[.slice uu N uc, .int .i64 (k : Int)] wr fun e w' => e = .returned (.bool (pbB (its xs) k)) ∧ Below wr.heap.size wr w') := hideP (specIs_any k hhr HN.out.symm (by omega) (by omega))
          obtain ⟨pb, hpb⟩ : ∃ b, b = pbB (its xs) k := ⟨_, rfl⟩
          rw [← hpb] at BC
          have hfl := fl_succ (its xs) k
          rw [← hpb] at hfl
          have HFL := hideP hfl
          have hfk := fl_len (its xs) k
          obtain ⟨m, hm⟩ : ∃ m, m = (fl (its xs) k).length := ⟨_, rfl⟩
          rw [← hm] at ho hfk
          have HM := hideP hm
          have HO := hideP ho
          have HHr := hideP hhr
          have HBr := hideP hB
          obtain ⟨ua2, uc2, rfl⟩ := ownG_shape ho
          clear hfl hpb hm ho hhr hB hgg hav
          go_wp2_with fail
          refine BC.out.mono ?_
          rintro e w6 ⟨rfl, hb6⟩
          have O6 := ownG_below HO.out hb6
          have H6 : Abv (w.alloc (.cells #[] 2)).heap.size w2 w6 := HAV.out.trans (Abv.below hb6)
          have B6 : Below w.heap.size w w6 := below_more HBr.out hb6 HBr.out.size
          have HO6 := hideP O6
          have HH6 := hideP H6
          have HB6 := hideP B6
          have hsz6 : w.heap.size ≤ w6.heap.size := B6.size
          clear hb6 O6 H6 B6
          cases pb with
          | false =>
            go_wp2
            go_roundw
            case rel =>
              refine ⟨k + 1, _, by omega, by go_num, rfl, ?_, HGG.out, HH6.out, HB6.out⟩
              rw [HFL.out]
              simp only [if_neg (show ¬ (false = true) by decide), Bool.false_eq_true, if_false]
              rw [← HM.out]
              exact HO6.out
            case measure => simp [intOf]; omega
          | true =>
            obtain ⟨j0, hj, hy0, hy1, hy2⟩ := info_parts Try.info2i
            go_wp2_with (at_builtin; refine wpList_append_at rfl _ _ 38 rfl w.heap.size 2 j0 _ 1 8 Try.underlying38 hj hy0 hy1 hy2 rfl (by decide) _ _ _ rfl (World.ownsRow.alloc HO6.out _) ⟨w6.heap.size, 0, none⟩ 1 1 [.int .i64 (k : Int)] rfl rfl (cell_one_new _ _ _) (by simp [Value.oneCell']) (by unfold maxLen; omega) (by omega) (by simp; omega) ?_)
            intro v5 w5 ho5 hg5 hat5
            have hsa : (w6.alloc (.cells #[.int .i64 (k : Int)] 2)).heap.size = w6.heap.size + 1 := by simp
            have hwa : (w.alloc (.cells #[] 2)).heap.size = w.heap.size + 1 := by simp
            have hb5 : ∀ q : Nat, q < w6.heap.size → (Value.slice ua2 m uc2).ownBlock ≠ some q → w5.heap[q]? = w6.heap[q]? := fun q hq hn => (hg5.block q (by omega) (fun e => hn e.symm)).trans (Below.heap_alloc _ _ _ hq)
            have hz2 : w2.heap.size ≤ w6.heap.size := HH6.out.size
            have G5 : Hid (∀ gg, v5.ownBlock = some gg → gg = w.heap.size ∨ w2.heap.size ≤ gg) := hideP (fun gg e => by
              rcases hat5 with h | h
              · exact HGG.out gg (h.symm.trans e)
              · have := Option.some.inj (h.symm.trans e)
                omega)
            have A5 : Hid (Abv (w.alloc (.cells #[] 2)).heap.size w2 w5) := hideP ⟨Nat.le_trans hz2 (Nat.le_trans (by omega) hg5.size), fun q hq1 hq2 => (hb5 q (by omega) (fun e => by rcases HGG.out q e with h | h <;> omega)).trans (HH6.out.block q hq1 hq2)⟩
            have B5 : Hid (Below w.heap.size w w5) := hideP (by
              have b := HB6.out
              refine ⟨hg5.os.trans b.os, hg5.tape.trans b.tape, hg5.output.trans b.output, Nat.le_trans b.size (Nat.le_trans (by omega) hg5.size), fun q hq => (hb5 q (Nat.lt_of_lt_of_le hq hsz6) (fun e => ?_)).trans (b.block q hq)⟩
              have := (World.ownsRow.lt HO6.out q e).1
              omega)
            have O5 : Hid (w5.ownsRow w.heap.size 2 1 v5 (m + 1) ((fl (its xs) k).map (Value.int .i64) ++ [.int .i64 (k : Int)])) := hideP ho5
            clear ho5 hg5 hat5 hb5 hsa hwa
            go_wp2
            go_roundw
            case rel =>
              refine ⟨k + 1, _, by omega, by go_num, rfl, ?_, G5.out, A5.out, B5.out⟩
              rw [HFL.out]
              simp only [if_true]
              rw [List.length_append, List.length_singleton, ← HM.out, List.map_append]
              exact O5.out
            case measure => simp [intOf]; omega
        · have hki : ¬ (k : Int) ≤ (N : Int) := by omega
          obtain rfl : k = N + 1 := by omega
          have HE : Hid (L = fl (its xs) (N + 1)) := hideP (by rw [HLL.out]; unfold pbL fl; rw [if_pos ⟨HOB.out.symm, by rw [← HN.out]; omega⟩, HN.out])
          have HO := hideP ho
          have HBr := hideP hB
          clear ho hhr hB hgg hav
          go_wp2
          go_ret
          refine ⟨⟨_, rfl, ?_⟩, HBr.out⟩
          rw [HE.out]
          exact HO.out
    · have h4b : decide ((N : Int) ≤ 4000) = false := decide_eq_false h4
      rw [h4b]
      have HE : Hid (L = []) := hideP (by rw [HLL.out]; unfold pbL; rw [if_neg (by rw [← HN.out]; omega)])
      clear hf hN hh hN20 h4
      go_wp2
      go_loopw [3, 6] (fun s3 s6 wr => s3 = .slice (some ⟨w.heap.size, 0, none⟩) 0 0 ∧ s6 = .int .i64 0 ∧ wr = w2) (fun _ _ _ => 0)
      case atStart => exact ⟨rfl, rfl, rfl⟩
      case round =>
        obtain ⟨rfl, rfl, rfl⟩ := hrel
        go_wp2
        go_ret
        refine ⟨⟨_, rfl, ?_⟩, HB2.out⟩
        rw [HE.out]
        exact HO2.out
end Go.Proofs.Ytjagagbelpihbaa

namespace Go.Proofs.Ytjagagbelpihbaa
open Go.RowKit
set_option linter.unusedVariables false
set_option linter.unusedSimpArgs false

/-- Rows of nodes, each in memory of its own. -/
structure Rws (lo : Nat) (w : World) (v : Value) (L : List (List Nd)) : Prop where
  is : ∃ ao cap, v = .slice ao L.length cap ∧ (0 < L.length → ∃ b off, ao = some ⟨b, off, none⟩ ∧ lo ≤ b ∧ b < w.heap.size ∧ ∀ i, i < L.length → ∃ u, w.cell? ⟨b, off + i, none⟩ = some u ∧ w.ownsRow lo 60 15 u (L.getD i []).length (flatN (L.getD i [])))
theorem Rws.abv {lo : Nat} {w w' : World} {v : Value} {L : List (List Nd)} (h : Rws lo w v L) (ha : Abv lo w w') : Rws lo w' v L := by
  obtain ⟨ao, cap, rfl, hc⟩ := h.is
  refine ⟨ao, cap, rfl, fun hp => ?_⟩
  obtain ⟨b, off, rfl, hlo, hlt, hcell⟩ := hc hp
  refine ⟨b, off, rfl, hlo, Nat.lt_of_lt_of_le hlt ha.size, fun i hi => ?_⟩
  obtain ⟨u, h1, h2⟩ := hcell i hi
  refine ⟨u, (World.cell?_of_block (w := w) (a := ⟨b, off + i, none⟩) (ha.block b hlo hlt)).trans h1, ?_⟩
  obtain ⟨h0, h | ⟨g, cap', cur, e, hg, hb, hr⟩⟩ := h2
  · exact ⟨h0, .inl h⟩
  · exact ⟨h0, .inr ⟨g, cap', cur, e, hg, (ha.block g hg (Array.getElem?_eq_some_iff.1 hb).1).trans hb, hr⟩⟩
theorem Rws.mono {lo lo' : Nat} {w : World} {v : Value} {L : List (List Nd)} (h : Rws lo w v L) (hl : lo' ≤ lo) : Rws lo' w v L := by
  obtain ⟨ao, cap, rfl, hc⟩ := h.is
  refine ⟨ao, cap, rfl, fun hp => ?_⟩
  obtain ⟨b, off, rfl, hlo, hlt, hcell⟩ := hc hp
  refine ⟨b, off, rfl, Nat.le_trans hl hlo, hlt, fun i hi => ?_⟩
  obtain ⟨u, h1, h2⟩ := hcell i hi
  exact ⟨u, h1, ownG_mono h2 hl⟩
theorem rws_of {w : World} {base n : Nat} {u : Value} {vs : List Value} {L : List (List Nd)} (ho : w.ownsRow base 25 1 u n vs) (hn : L.length = n) (hL : Lsts base w vs (fun i => L.getD i [])) : Rws base w u L := by
  have hvl := own25_len ho
  obtain ⟨ao, cap, rfl, hg⟩ := own25_shape ho
  refine ⟨⟨ao, cap, by rw [hn], fun hp => ?_⟩⟩
  obtain ⟨g, rfl, hgb, hlt⟩ := hg (by omega)
  refine ⟨g, 0, rfl, hgb, hlt, fun i hi => ?_⟩
  have hu : vs[i]? = some (vs[i]'(by omega)) := List.getElem?_eq_getElem (by omega)
  have h1 : w.cell? ⟨g, 0 + i, none⟩ = some (vs[i]'(by omega)) := by rw [Nat.zero_add]; exact (own25_cell ho hu).1
  exact ⟨_, h1, hL.own i _ hu⟩

/-- The items of a stack in memory. -/
structure HR (lo : Nat) (w : World) (v : Value) (xs : List Nd) : Prop where
  hd : Heads lo w v (its xs)
  rs : Rws lo w v (itemsOf xs)
theorem HR.abv {lo : Nat} {w w' : World} {v : Value} {xs : List Nd} (h : HR lo w v xs) (ha : Abv lo w w') : HR lo w' v xs := ⟨h.hd.abv ha, h.rs.abv ha⟩
theorem HR.mono {lo lo' : Nat} {w : World} {v : Value} {xs : List Nd} (h : HR lo w v xs) (hl : lo' ≤ lo) : HR lo' w v xs := ⟨h.hd.mono hl, h.rs.mono hl⟩

set_option maxHeartbeats 4000000 in
theorem specStack2_any {v : Value} {xs : List Nd} {w : World} (h : NRow 0 w v xs) (hs : xs.length ≤ 1048576) (hcp : ∀ a n c, v = .slice a n c → n ≤ c ∧ c ≤ 9223372036854775807) :
    Calls Try.prog 43 #[v] w fun e W' => (listB xs = false → ∃ u, e = .returned (.tuple #[u, .bool false])) ∧ (listB xs = true → ∃ u, e = .returned (.tuple #[u, .bool (decide (((its xs).length : Int) ≤ 4000))]) ∧ HR w.heap.size W' u xs) ∧ Below w.heap.size w W' := by
  have LC : Hid (∀ W, Below w.heap.size w W → Calls Try.prog 9 #[v] W fun e w' => e = .returned (.bool (listB xs)) ∧ Below W.heap.size W w') := hideP (fun W hW => specListOk_any (SRow.below ndStable h hW) hs)
  have IC : Hid (listB xs = true → ∀ W, Below w.heap.size w W → Calls Try.prog 13 #[v] W fun e W' => (∃ u cap, e = .returned (.slice u (its xs).length cap) ∧ HR W.heap.size W' (.slice u (its xs).length cap) xs) ∧ Below W.heap.size W W') := hideP (fun ho W hW => by
    refine (specItems_any (SRow.below ndStable h hW) hs hcp).mono ?_
    rintro e W' ⟨⟨u, vs, rfl, h1, h2⟩, h3⟩
    obtain ⟨hh, hlen⟩ := heads_of ho h1 h2
    have hw := rws_of h1 rfl h2
    obtain ⟨ao, cap, rfl, _⟩ := own25_shape h1
    have hhr : HR W.heap.size W' (.slice ao (itemsOf xs).length cap) xs := ⟨hh, hw⟩
    rw [hlen] at hhr ⊢
    exact ⟨⟨ao, cap, rfl, hhr⟩, h3⟩)
  obtain ⟨ao, n, cap, rfl, hl, hr⟩ := h
  obtain ⟨ob, hob⟩ : ∃ ob, ob = listB xs := ⟨_, rfl⟩
  rw [← hob] at LC IC ⊢
  clear hr hl hcp hob
  have IC2 : Hid (ob = true → _) := IC
  clear IC
  go_enter Try.func43, Try.ntmps43
  go_wp2_with fail
  refine (LC.out _ (by first | exact Below.refl _ _ | exact below1 _ _)).mono ?_
  rintro e w2 ⟨rfl, hb2⟩
  have B2 : Hid (Below w.heap.size w w2) := hideP (by first | exact hb2 | exact below_more (below1 _ _) hb2 (by simp))
  clear hb2
  cases hq : ob with
  | false =>
    subst hq
    clear IC2 LC
    go_wp2
    exact bodyPost_ret (v := .tuple #[.slice (some ⟨w2.heap.size, 0, none⟩) 0 0, .bool false]) (by simp [results, Try.results43, go_sem]) rfl ⟨⟨_, rfl⟩, B2.out.alloc B2.out.size _⟩
  | true =>
    have IC3 := hideP (IC2.out hq)
    subst hq
    clear IC2 LC
    go_wp2_with fail
    refine (IC3.out _ B2.out).mono ?_
    rintro e w3 ⟨⟨u, uc, rfl, hh⟩, hb3⟩
    have B3 : Hid (Below w.heap.size w w3) := hideP (below_more B2.out hb3 B2.out.size)
    have HH := hideP hh
    clear hb3 hh
    go_wp2
    exact bodyPost_ret (v := .tuple #[.slice u (its xs).length uc, .bool (decide (((its xs).length : Int) ≤ 4000))]) (by simp [results, Try.results43, go_sem]) rfl ⟨⟨_, rfl, HH.out.mono B2.out.size⟩, B3.out⟩

theorem begI_range (ys : List It) (a b : Nat) (h : a ≤ b) : a ≤ begI ys a b ∧ begI ys a b ≤ b := by
  obtain ⟨n, hn⟩ : ∃ n, n = b - a := ⟨_, rfl⟩
  induction n generalizing a with
  | zero =>
    obtain rfl : a = b := by omega
    rw [begI_end]
    omega
  | succ n ih =>
    rw [begI_step ys a b (by omega)]
    split
    · have := ih (a + 1) (by omega) (by omega)
      omega
    · omega

set_option maxRecDepth 20000 in
set_option maxHeartbeats 4000000 in
theorem specBeg_any {w : World} {v : Value} {ys : List It} {N lo : Nat} (a b : Nat) (h : Heads lo w v ys) (hl : ys.length = N) (hab : a ≤ b) (hb : b ≤ N) (hN : N ≤ 20001) :
    Calls Try.prog 70 #[v, .int .i64 (a : Int), .int .i64 (b : Int)] w fun e w' => e = .returned (.int .i64 ((begI ys a b : Nat) : Int)) ∧ Below w.heap.size w w' := by
  have HH := hideP h
  obtain ⟨ao, cap, rfl, hc⟩ := h.is
  rw [hl] at HH
  clear hc
  rw [hl]
  have HL := hideP hl
  clear hl
  go_enter Try.func70, Try.ntmps70
  go_wp2
  go_loopw [1] (fun s wr => ∃ k : Nat, s = .int .i64 (k : Int) ∧ a ≤ k ∧ k ≤ b ∧ Hid (begI ys k b = begI ys a b) ∧ Below w.heap.size w wr) (fun s _ => b - (intOf s).toNat)
  case atStart => exact ⟨a, rfl, Nat.le_refl _, hab, hideP rfl, Below.refl _ _⟩
  case round =>
    obtain ⟨k, rfl, hk1, hk2, HB, hB⟩ := hrel
    by_cases hkb : k < b
    · have hki : (k : Int) < (b : Int) := by omega
      have hkN : (k : Int) < (N : Int) := by omega
      obtain ⟨ao2, cap2', hvv, hc⟩ := (HH.out.abv (Abv.below hB)).is
      rw [HL.out] at hvv hc
      simp only [Value.slice.injEq] at hvv
      obtain ⟨rfl, _, rfl⟩ := hvv
      obtain ⟨b1, off, rfl, _, hbl, hcell⟩ := hc (by omega)
      obtain ⟨u, rest, hu, hrow⟩ := hcell k (by omega)
      obtain ⟨x, hx⟩ : ∃ x, x = (ys.getD k It.none).1 := ⟨_, rfl⟩
      rw [← hx] at hrow
      obtain ⟨b2, off2, n2, cap2, rfl, hn2, hb2, hcs⟩ := head_cells hrow
      have hn2i : (0 : Int) < (n2 : Int) := by omega
      have hstep := begI_step ys k b hkb
      rw [← hx] at hstep
      have DC : Hid (∀ W, Calls Try.prog 64 #[ndV x] W fun e w' => e = .returned (.bool (discB x)) ∧ Below W.heap.size W w') := hideP (fun W => specDisc_any x W)
      obtain ⟨d, hd⟩ : ∃ v, v = discB x := ⟨_, rfl⟩
      rw [← hd] at DC hstep
      have HST := hideP hstep
      clear hd hx hstep hrow hcell hc
      obtain ⟨kk, wd, ht, dp, sh, fo, ch, nn, gs, gp, gpo, gm, gmo, tx, kids⟩ := x
      simp only [Nd.cells] at hcs
      simp only [ndV] at DC
      have n100 : wr.cell? ⟨b2, off2, none⟩ = some (.int .i64 kk) := hcs 0 (by omega)
      have n101 : wr.cell? ⟨b2, off2 + 1, none⟩ = some (.int .i64 wd) := hcs 1 (by omega)
      have n102 : wr.cell? ⟨b2, off2 + 2, none⟩ = some (.int .i64 ht) := hcs 2 (by omega)
      have n103 : wr.cell? ⟨b2, off2 + 3, none⟩ = some (.int .i64 dp) := hcs 3 (by omega)
      have n104 : wr.cell? ⟨b2, off2 + 4, none⟩ = some (.int .i64 sh) := hcs 4 (by omega)
      have n105 : wr.cell? ⟨b2, off2 + 5, none⟩ = some (.int .i64 fo) := hcs 5 (by omega)
      have n106 : wr.cell? ⟨b2, off2 + 6, none⟩ = some (.int .i64 ch) := hcs 6 (by omega)
      have n107 : wr.cell? ⟨b2, off2 + 7, none⟩ = some (.int .i64 nn) := hcs 7 (by omega)
      have n108 : wr.cell? ⟨b2, off2 + 8, none⟩ = some (.int .i64 gs) := hcs 8 (by omega)
      have n109 : wr.cell? ⟨b2, off2 + 9, none⟩ = some (.int .i64 gp) := hcs 9 (by omega)
      have n110 : wr.cell? ⟨b2, off2 + 10, none⟩ = some (.int .i64 gpo) := hcs 10 (by omega)
      have n111 : wr.cell? ⟨b2, off2 + 11, none⟩ = some (.int .i64 gm) := hcs 11 (by omega)
      have n112 : wr.cell? ⟨b2, off2 + 12, none⟩ = some (.int .i64 gmo) := hcs 12 (by omega)
      have n113 : wr.cell? ⟨b2, off2 + 13, none⟩ = some (.string tx) := hcs 13 (by omega)
      have n114 : wr.cell? ⟨b2, off2 + 14, none⟩ = some (.int .i64 kids) := hcs 14 (by omega)
      have HBW := hideP hB
      clear hcs hB
      go_wp2_with fail
      refine (DC.out _).mono ?_
      rintro e w7 ⟨rfl, hb7⟩
      have B7 : Hid (Below w.heap.size w w7) := hideP (by first | exact below_more HBW.out hb7 HBW.out.size | exact below_more (HBW.out.alloc HBW.out.size _) hb7 (by have := HBW.out.size; simp; omega))
      clear hb7
      cases d with
      | false =>
        go_wp2
        go_ret
        exact ⟨by rw [← HB.out, HST.out]; rfl, B7.out⟩
      | true =>
        go_wp2
        go_roundw
        case rel => exact ⟨k + 1, by go_num, by omega, by omega, hideP (by rw [← HB.out, HST.out]; rfl), B7.out⟩
        case measure => simp [intOf]; omega
    · have hki : ¬ (k : Int) < (b : Int) := by omega
      obtain rfl : k = b := by omega
      have HBW := hideP hB
      clear hB
      go_wp2
      go_ret
      exact ⟨by rw [← HB.out, begI_end]; rfl, HBW.out⟩
end Go.Proofs.Ytjagagbelpihbaa

namespace Go.Proofs.Ytjagagbelpihbaa
open Go.RowKit
set_option linter.unusedVariables false
set_option linter.unusedSimpArgs false

theorem flatN_app (a b : List Nd) : flatN (a ++ b) = flatN a ++ flatN b := by
  induction a with
  | nil => rfl
  | cons x a ih => rw [List.cons_append, flatN, flatN, ih, List.append_assoc]
theorem Try.info60s : (Try.prog.info? 60).map (fun i => (i.zero, i.size, i.bytes)) = some (some (ndV Nd.none), 15, 128) := by kernel_rfl

/-- One item of a stack: its row in memory, and what of it stands above and below. -/
theorem item_at {lo N : Nat} {w : World} {v : Value} {xs : List Nd} (h : HR lo w v xs) (hob : listB xs = true) (hl : (its xs).length = N) {i : Nat} (hi : i < N) :
    ∃ (ao : Option Addr) (cap b off g c : Nat) (x : Nd) (tl : List Nd), v = .slice ao N cap ∧ ao = some ⟨b, off, none⟩ ∧ lo ≤ b ∧ b < w.heap.size ∧ w.cell? ⟨b, off + i, none⟩ = some (.slice (some ⟨g, 0, none⟩) (1 + tl.length) c) ∧ lo ≤ g ∧ g < w.heap.size ∧ w.ownsRow lo 60 15 (.slice (some ⟨g, 0, none⟩) (1 + tl.length) c) (1 + tl.length) (flatN (x :: tl)) ∧ tl.length ≤ 20000 ∧
      segA xs ((its xs).getD i It.none) = (if x.k = 11 then [] else x :: tl) ∧ segB xs ((its xs).getD i It.none) = (if x.k = 11 then tl else []) ∧ ((its xs).getD i It.none).1 = x := by
  have hok := allOk hob
  obtain ⟨ao, cap, rfl, hc⟩ := h.rs.is
  have hlen : (itemsOf xs).length = (its xs).length := by unfold itemsOf its; rw [if_pos hob, List.length_map, List.length_map]
  rw [hlen, hl] at hc ⊢
  obtain ⟨b, off, rfl, hlo, hlt, hcell⟩ := hc (by omega)
  obtain ⟨u, h1, h2⟩ := hcell i hi
  have hi2 : i < (starts xs (xs.length + 1) 0).length := by rw [← hl] at hi; simpa [its] using hi
  have hst := starts_lt xs (xs.length + 1) 0 _ (List.getElem_mem hi2)
  have e1 : (itemsOf xs).getD i [] = itemAt xs ((starts xs (xs.length + 1) 0)[i]) := by
    unfold itemsOf
    rw [if_pos hob]
    simp [List.getD, List.getElem?_map, List.getElem?_eq_getElem hi2]
  have e2 : (its xs).getD i It.none = itAt xs ((starts xs (xs.length + 1) 0)[i]) := by
    unfold its
    simp [List.getD, List.getElem?_map, List.getElem?_eq_getElem hi2]
  obtain ⟨p, hp⟩ : ∃ p, p = (starts xs (xs.length + 1) 0)[i] := ⟨_, rfl⟩
  rw [← hp] at e1 e2 hst
  have e3 : itemAt xs p = xs.getD p Nd.none :: (itemAt xs p).tail := by
    unfold itemAt
    have hd : xs.drop p = xs[p] :: xs.drop (p + 1) := List.drop_eq_getElem_cons hst
    rw [hd, Nat.add_comm 1, List.take_succ_cons]
    simp [List.getD, List.getElem?_eq_getElem hst]
  have hseg := seg_of hok hst
  have hlenI : (itemAt xs p).length ≤ 20000 := by
    unfold itemAt
    rw [List.length_take, List.length_drop]
    have := hok.len
    omega
  obtain ⟨tl, htl⟩ : ∃ tl, tl = (itemAt xs p).tail := ⟨_, rfl⟩
  rw [← htl] at e3
  rw [e1, e3, List.length_cons] at h2
  rw [e3, List.length_cons] at hlenI
  have h2' : w.ownsRow lo 60 15 u (1 + tl.length) (flatN (xs.getD p Nd.none :: tl)) := by rw [Nat.add_comm]; exact h2
  have h2'' := h2'
  rcases h2''.2 with ⟨_, h0⟩ | ⟨g, c, cur, hv, hg, hb, _⟩
  · omega
  · subst hv
    refine ⟨_, cap, b, off, g, c, xs.getD p Nd.none, tl, rfl, rfl, hlo, hlt, h1, hg, (Array.getElem?_eq_some_iff.1 hb).1, h2', by omega, ?_, ?_, ?_⟩
    · rw [e2, hseg.1, e3]
    · rw [e2, hseg.2, ← htl]
    · rw [e2]
      rfl

set_option maxRecDepth 200000 in
set_option maxHeartbeats 8000000 in
theorem specPage_any {w : World} {v : Value} {xs : List Nd} {N lo : Nat} (S : Sh) (a b : Nat) (h : HR lo w v xs) (hob : listB xs = true) (hl : (its xs).length = N) (hab : a ≤ b) (hb : b ≤ N) (hN : N ≤ 4000) :
    Calls Try.prog 48 #[v, shV S, .int .i64 (a : Int), .int .i64 (b : Int)] w fun e w' => (∃ u, e = .returned u ∧ w'.ownsRow w.heap.size 60 15 u (pageL xs (gapN S.g0 S.g1 S.g2 S.g3 S.g4) (((its xs).drop (begI (its xs) a b)).take (b - begI (its xs) a b))).length (flatN (pageL xs (gapN S.g0 S.g1 S.g2 S.g3 S.g4) (((its xs).drop (begI (its xs) a b)).take (b - begI (its xs) a b))))) ∧ Below w.heap.size w w' := by
  obtain ⟨PL, hPL⟩ : ∃ PL, PL = pageL xs (gapN S.g0 S.g1 S.g2 S.g3 S.g4) (((its xs).drop (begI (its xs) a b)).take (b - begI (its xs) a b)) := ⟨_, rfl⟩
  rw [← hPL]
  have HPL := hideP hPL
  clear hPL
  have hok := allOk hob
  have HH := hideP h
  have BC : Hid (∀ W, Below w.heap.size w W → Calls Try.prog 70 #[v, .int .i64 (a : Int), .int .i64 (b : Int)] W fun e w' => e = .returned (.int .i64 ((begI (its xs) a b : Nat) : Int)) ∧ Below W.heap.size W w') := hideP (fun W hW => specBeg_any a b (HH.out.hd.abv (Abv.below hW)) hl hab hb (by omega))
  obtain ⟨ao, cap, rfl, _⟩ := h.rs.is
  have hlen : (itemsOf xs).length = N := by unfold itemsOf; rw [if_pos hob, List.length_map, ← hl]; unfold its; rw [List.length_map]
  rw [hlen] at HH BC ⊢
  obtain ⟨s, hs⟩ : ∃ s, s = begI (its xs) a b := ⟨_, rfl⟩
  rw [← hs] at BC
  have hsr : a ≤ s ∧ s ≤ b := by rw [hs]; exact begI_range _ _ _ hab
  obtain ⟨zs, hzs⟩ : ∃ zs, zs = ((its xs).drop s).take (b - s) := ⟨_, rfl⟩
  have HZS := hideP hzs
  have HPZ : Hid (PL = pageL xs (gapN S.g0 S.g1 S.g2 S.g3 S.g4) zs) := hideP (by rw [HPL.out, hzs, ← hs])
  have hzl : zs.length = b - s := by rw [hzs, List.length_take, List.length_drop]; omega
  have HZL := hideP hzl
  have HOB := hideP hob
  have HL := hideP hl
  have hpl : Hid ((zs.flatMap (segA xs)).length + (zs.flatMap (segB xs)).length ≤ 20000) := hideP (by rw [hzs]; exact page_len hok _ _)
  obtain ⟨i1, hi1, hy0, hy1, hy2⟩ := info_parts Try.info60s
  obtain ⟨sht, sdp, g0, g1, g2', g3, g4, snt⟩ := S
  simp only [shV]
  clear h hs hzs hzl hob hl hlen
  go_enter Try.func48, Try.ntmps48
  go_wp2_with fail
  obtain ⟨W0, hW0⟩ : ∃ W0, W0 = w.alloc (.cells #[.int .i64 sht, .int .i64 sdp, .int .i64 g0, .int .i64 g1, .int .i64 g2', .int .i64 g3, .int .i64 g4, .int .i64 snt] 52) := ⟨_, rfl⟩
  rw [← hW0]
  have hs0 : W0.heap.size = w.heap.size + 1 := by rw [hW0]; simp
  have B0 : Hid (Below w.heap.size w W0) := hideP (by rw [hW0]; exact below1 _ _)
  have hcl0 := heap_alloc_new w (.cells #[.int .i64 sht, .int .i64 sdp, .int .i64 g0, .int .i64 g1, .int .i64 g2', .int .i64 g3, .int .i64 g4, .int .i64 snt] 52)
  rw [← hW0] at hcl0
  have HC0 : Hid (∀ W, Below W0.heap.size W0 W → W.cell? ⟨w.heap.size, 2, none⟩ = some (.int .i64 g0) ∧ W.cell? ⟨w.heap.size, 3, none⟩ = some (.int .i64 g1) ∧ W.cell? ⟨w.heap.size, 4, none⟩ = some (.int .i64 g2') ∧ W.cell? ⟨w.heap.size, 5, none⟩ = some (.int .i64 g3) ∧ W.cell? ⟨w.heap.size, 6, none⟩ = some (.int .i64 g4)) := hideP (fun W hW => by
    have hh := (hW.block w.heap.size (by omega)).trans hcl0
    refine ⟨?_, ?_, ?_, ?_, ?_⟩ <;> (rw [cell_of_row W _ _ _ _ _ hh]; rfl))
  have HS0 := hideP hs0
  clear hW0 hcl0 hs0
  refine (BC.out _ (below_more B0.out (below2 _ _ _) B0.out.size)).mono ?_
  rintro e w1 ⟨rfl, hb1⟩
  have B1 : Hid (Below W0.heap.size W0 w1) := hideP (below_more (below2 _ _ _) hb1 (by simp; omega))
  have HA1 : Hid (w1.ownsRow W0.heap.size 60 15 (.slice (some ⟨W0.heap.size, 0, none⟩) 0 0) 0 []) := hideP (by
    have q1 : w1.heap[W0.heap.size]? = some (.cells #[] 60 (0, 0)) := (hb1.block _ (by simp; omega)).trans (((below1 (W0.alloc (.cells #[] 60)) (.cells #[] 60)).block _ (by simp)).trans (heap_alloc_new _ _))
    exact ⟨rfl, .inr ⟨_, _, _, rfl, by omega, q1, by omega, by unfold maxLen; omega, rfl, rfl⟩⟩)
  have HN1 : Hid (w1.ownsRow W0.heap.size 60 15 (.slice (some ⟨W0.heap.size + 1, 0, none⟩) 0 0) 0 []) := hideP (by
    have q0 := heap_alloc_new (W0.alloc (.cells #[] 60)) (.cells #[] 60)
    have q1 : w1.heap[W0.heap.size + 1]? = some (.cells #[] 60 (0, 0)) := (hb1.block _ (by simp)).trans (by simpa using q0)
    exact ⟨rfl, .inr ⟨_, _, _, rfl, by omega, q1, by omega, by unfold maxLen; omega, rfl, rfl⟩⟩)
  clear hb1 BC
  go_wp2
  go_loopw [9, 10, 11, 12] (fun s5 s6 s7 s8 wr => ∃ k : Nat, k ≤ b - s ∧ s8 = .int .i64 ((s + k : Nat) : Int) ∧ s7 = .bool (noteB (zs.take k)) ∧ (∃ m, wr.ownsRow W0.heap.size 60 15 s5 m (flatN ((zs.take k).flatMap (segA xs)))) ∧ (∃ m, wr.ownsRow W0.heap.size 60 15 s6 m (flatN ((zs.take k).flatMap (segB xs)))) ∧ (∀ q, s5.ownBlock = some q → s6.ownBlock ≠ some q) ∧ (∃ q, s6.ownBlock = some q) ∧ Below W0.heap.size W0 wr) (fun _ _ _ i _ => b - (intOf i).toNat)
  case atStart => exact ⟨0, by omega, by simp, rfl, ⟨0, by rw [← HS0.out]; exact HA1.out⟩, ⟨0, by rw [← HS0.out]; exact HN1.out⟩, fun q e1 e2 => by simp [Value.ownBlock] at e1 e2; omega, ⟨_, rfl⟩, B1.out⟩
  case round =>
    obtain ⟨k, hk, rfl, rfl, ⟨mA, hA⟩, ⟨mB, hB⟩, hap, hsm, hBw⟩ := hrel
    obtain ⟨uaA, ucA, rfl⟩ := ownG_shape hA
    obtain ⟨uaB, ucB, rfl⟩ := ownG_shape hB
    have hzA : (zs.take k).flatMap (segA xs) ++ (zs.drop k).flatMap (segA xs) = zs.flatMap (segA xs) := by rw [← List.flatMap_append, List.take_append_drop]
    have hzB : (zs.take k).flatMap (segB xs) ++ (zs.drop k).flatMap (segB xs) = zs.flatMap (segB xs) := by rw [← List.flatMap_append, List.take_append_drop]
    have hmA : mA ≤ 20000 := by
      have h1 := hA.1
      have h2 := congrArg List.length hzA
      have h3 := hpl.out
      rw [flatN_len] at h1
      rw [List.length_append] at h2
      omega
    have hmB : mB ≤ 20000 := by
      have h1 := hB.1
      have h2 := congrArg List.length hzB
      have h3 := hpl.out
      rw [flatN_len] at h1
      rw [List.length_append] at h2
      omega
    have HA := hideP hA
    have HB := hideP hB
    have HAP := hideP hap
    have HSM := hideP hsm
    have hwr : W0.heap.size ≤ wr.heap.size := hBw.size
    have HBW := hideP hBw
    clear hzA hzB hA hB hap hsm
    by_cases hkb : k < b - s
    · have hki : ((s + k : Nat) : Int) < (b : Int) := by omega
      have hidx : s + k < N := by omega
      obtain ⟨ao', cap', bb, off, g, c, x, tl, hv, hao, hlo, hbl, hu, hgl, hgs, hrow, htl, hsa, hsb, hx1⟩ := item_at (HH.out.abv (Abv.below (below_more B0.out HBW.out B0.out.size))) HOB.out HL.out hidx
      simp only [Value.slice.injEq] at hv
      obtain ⟨rfl, _, rfl⟩ := hv
      subst hao
      have hzk : zs.take (k + 1) = zs.take k ++ [(its xs).getD (s + k) It.none] := by
        rw [take_snoc zs k It.none (by rw [HZL.out]; exact hkb), HZS.out]
        simp [List.getD, List.getElem?_take, List.getElem?_drop, hkb]
      have HF1 : Hid (noteB (zs.take (k + 1)) = (noteB (zs.take k) || (x.k == 11))) := hideP (by rw [hzk]; unfold noteB; rw [List.any_append]; simp only [List.any_cons, List.any_nil, hx1, Bool.or_false])
      have HF2 : Hid ((zs.take (k + 1)).flatMap (segA xs) = (zs.take k).flatMap (segA xs) ++ (if x.k = 11 then [] else x :: tl)) := hideP (by rw [hzk, List.flatMap_append, List.flatMap_cons, List.flatMap_nil, List.append_nil, hsa])
      have HF3 : Hid ((zs.take (k + 1)).flatMap (segB xs) = (zs.take k).flatMap (segB xs) ++ (if x.k = 11 then tl else [])) := hideP (by rw [hzk, List.flatMap_append, List.flatMap_cons, List.flatMap_nil, List.append_nil, hsb])
      have hrc : Hid (∀ j u, (flatN (x :: tl))[j]? = some u → wr.cell? ⟨g, j, none⟩ = some u) := hideP (fun j u hu => by
        have hj : j < (1 + tl.length) * 15 := by have h := (List.getElem?_eq_some_iff.1 hu).1; rw [hrow.1] at h; exact h
        rw [World.ownsRow.cellAt hrow j hj]
        exact hu)
      have n100 : wr.cell? ⟨g, 0, none⟩ = some (.int .i64 x.k) := hrc.out 0 _ rfl
      have hcap := ownG_cap hrow
      obtain ⟨hcap1, hcap2⟩ := hcap
      have hcap3 : c ≤ 9223372036854775807 := by unfold maxLen at hcap2; exact hcap2
      obtain ⟨r, hr⟩ : ∃ r, r = tl.length := ⟨_, rfl⟩
      have HRL := hideP hr
      rw [← hr] at hu hcap1 htl
      obtain ⟨xk, hxk⟩ : ∃ xk, xk = x.k := ⟨_, rfl⟩
      rw [← hxk] at n100 HF1 HF2 HF3
      have hni : (0 : Int) < ((1 + r : Nat) : Int) := by omega
      have hGNE : Hid (lo ≤ g ∧ g < wr.heap.size) := hideP ⟨hgl, hgs⟩
      obtain ⟨nb, hnb⟩ : ∃ nb, nb = noteB (zs.take k) := ⟨_, rfl⟩
      rw [← hnb] at HF1 ⊢
      clear hzk hsa hsb hx1 hrow hr hxk hcap2 hlo hgl hnb
      by_cases hx : xk = 11
      · subst hx
        have hxb : ((11 : Int) == 11) = true := rfl
        simp only [if_true, hxb, Bool.or_true, List.append_nil] at HF1 HF2 HF3
        by_cases hc1 : 1 < c
        · have hc1i : (1 : Int) < (c : Int) := by omega
          go_wp2_with (at_builtin; refine Hid.out ?_)
          refine hideP ?_
          refine wpList_append_at rfl (.tmp 32) (.tmp 37) 25 rfl W0.heap.size 60 i1 (ndV Nd.none) 15 128 Try.underlying25 hi1 hy0 hy1 hy2 rfl (by decide) (.slice uaB mB ucB) mB _ rfl HB.out ⟨g, 15, none⟩ r (c - 1) (flatN tl) rfl (by rw [flatN_len, HRL.out]) (fun j z hz => ?nws1) (flatN_one _) (by unfold maxLen; omega) (by omega) hwr ?_
          case nws1 =>
            have he : ((⟨g, 15, none⟩ : Addr).add j) = ⟨g, 15 + j, none⟩ := by simp only [Addr.add]; split <;> simp_all
            rw [he]
            exact hrc.out (15 + j) z (by rw [flatN, List.getElem?_append_right (by rw [cells_len]; omega), cells_len, Nat.add_sub_cancel_left]; exact hz)
          intro v5 w5 ho5 hg5 hat5
          have O5 : Hid (w5.ownsRow W0.heap.size 60 15 v5 (mB + r) (flatN ((zs.take (k + 1)).flatMap (segB xs)))) := hideP (by rw [HF3.out, flatN_app]; exact ho5)
          have N5 : Hid (w5.ownsRow W0.heap.size 60 15 (.slice uaA mA ucA) mA (flatN ((zs.take (k + 1)).flatMap (segA xs)))) := hideP (by
            rw [HF2.out]
            obtain ⟨h0, h | ⟨gg, cap', cur, e, hgb, hb, hr'⟩⟩ := HA.out
            · exact ⟨h0, .inl h⟩
            · exact ⟨h0, .inr ⟨gg, cap', cur, e, hgb, (hg5.block gg (Array.getElem?_eq_some_iff.1 hb).1 (fun e2 => HAP.out gg (by rw [e]; rfl) e2.symm)).trans hb, hr'⟩⟩)
          have S5 : Hid (∃ q, v5.ownBlock = some q) := hideP (by rcases hat5 with h | h; exact HSM.out.imp (fun q hq => h.trans hq); exact ⟨_, h⟩)
          have P5 : Hid (∀ q, (Value.slice uaA mA ucA).ownBlock = some q → v5.ownBlock ≠ some q) := hideP (fun q e1 e2 => by
            rcases hat5 with h | h
            · exact HAP.out q e1 (h.symm.trans e2)
            · have h3 := Option.some.inj (h.symm.trans e2)
              have h4 := (World.ownsRow.lt HA.out q e1).2
              omega)
          have B5 : Hid (Below W0.heap.size W0 w5) := hideP (Below.grown HBW.out hg5 hwr (fun j hj => (World.ownsRow.lt HB.out j hj).1))
          obtain ⟨a5, c5, rfl⟩ := ownG_shape ho5
          clear ho5 hg5 hat5 n100 hu
          go_wp2
          go_roundw
          case rel => exact ⟨k + 1, by omega, congrArg _ (by push_cast; omega), by rw [HF1.out], ⟨_, N5.out⟩, ⟨_, O5.out⟩, P5.out, S5.out, B5.out⟩
          case measure => simp [intOf]; omega
        · obtain rfl : c = 1 := by omega
          obtain rfl : r = 0 := by omega
          go_wp2_with (at_builtin; refine Hid.out ?_)
          refine hideP ?_
          refine wpList_append_at rfl (.tmp 32) (.tmp 37) 25 rfl W0.heap.size 60 i1 (ndV Nd.none) 15 128 Try.underlying25 hi1 hy0 hy1 hy2 rfl (by decide) (.slice uaB mB ucB) mB _ rfl HB.out ⟨g, 0, none⟩ 0 0 (flatN tl) rfl (by rw [flatN_len, ← HRL.out]) (fun j z hz => ?nws2) (flatN_one _) (by unfold maxLen; omega) (by omega) hwr ?_
          case nws2 =>
            have h1 := HRL.out
            have h2 : tl = [] := List.eq_nil_of_length_eq_zero (by omega)
            rw [h2] at hz
            simp [flatN] at hz
          intro v5 w5 ho5 hg5 hat5
          have O5 : Hid (w5.ownsRow W0.heap.size 60 15 v5 (mB + 0) (flatN ((zs.take (k + 1)).flatMap (segB xs)))) := hideP (by rw [HF3.out, flatN_app]; exact ho5)
          have N5 : Hid (w5.ownsRow W0.heap.size 60 15 (.slice uaA mA ucA) mA (flatN ((zs.take (k + 1)).flatMap (segA xs)))) := hideP (by
            rw [HF2.out]
            obtain ⟨h0, h | ⟨gg, cap', cur, e, hgb, hb, hr'⟩⟩ := HA.out
            · exact ⟨h0, .inl h⟩
            · exact ⟨h0, .inr ⟨gg, cap', cur, e, hgb, (hg5.block gg (Array.getElem?_eq_some_iff.1 hb).1 (fun e2 => HAP.out gg (by rw [e]; rfl) e2.symm)).trans hb, hr'⟩⟩)
          have S5 : Hid (∃ q, v5.ownBlock = some q) := hideP (by rcases hat5 with h | h; exact HSM.out.imp (fun q hq => h.trans hq); exact ⟨_, h⟩)
          have P5 : Hid (∀ q, (Value.slice uaA mA ucA).ownBlock = some q → v5.ownBlock ≠ some q) := hideP (fun q e1 e2 => by
            rcases hat5 with h | h
            · exact HAP.out q e1 (h.symm.trans e2)
            · have h3 := Option.some.inj (h.symm.trans e2)
              have h4 := (World.ownsRow.lt HA.out q e1).2
              omega)
          have B5 : Hid (Below W0.heap.size W0 w5) := hideP (Below.grown HBW.out hg5 hwr (fun j hj => (World.ownsRow.lt HB.out j hj).1))
          obtain ⟨a5, c5, rfl⟩ := ownG_shape ho5
          clear ho5 hg5 hat5 n100 hu
          go_wp2
          go_roundw
          case rel => exact ⟨k + 1, by omega, congrArg _ (by push_cast; omega), by rw [HF1.out], ⟨_, N5.out⟩, ⟨_, O5.out⟩, P5.out, S5.out, B5.out⟩
          case measure => simp [intOf]; omega
      · have hxb : (xk == 11) = false := by simp [hx]
        simp only [if_neg hx, hxb, Bool.or_false, List.append_nil] at HF1 HF2 HF3
        go_wp2_with (at_builtin; refine Hid.out ?_)
        refine hideP ?_
        refine wpList_append_at rfl (.tmp 39) (.tmp 43) 25 rfl W0.heap.size 60 i1 (ndV Nd.none) 15 128 Try.underlying25 hi1 hy0 hy1 hy2 rfl (by decide) (.slice uaA mA ucA) mA _ rfl HA.out ⟨g, 0, none⟩ (1 + r) c (flatN (x :: tl)) rfl (by rw [flatN_len, List.length_cons, HRL.out, Nat.add_comm 1]) (fun j z hz => ?nws3) (flatN_one _) (by unfold maxLen; omega) (by omega) hwr ?_
        case nws3 =>
          have he : ((⟨g, 0, none⟩ : Addr).add j) = ⟨g, j, none⟩ := by simp only [Addr.add]; split <;> simp_all
          rw [he]
          exact hrc.out j z hz
        intro v5 w5 ho5 hg5 hat5
        have O5 : Hid (w5.ownsRow W0.heap.size 60 15 v5 (mA + (1 + r)) (flatN ((zs.take (k + 1)).flatMap (segA xs)))) := hideP (by rw [HF2.out, flatN_app]; exact ho5)
        have N5 : Hid (w5.ownsRow W0.heap.size 60 15 (.slice uaB mB ucB) mB (flatN ((zs.take (k + 1)).flatMap (segB xs)))) := hideP (by
          rw [HF3.out]
          obtain ⟨h0, h | ⟨gg, cap', cur, e, hgb, hb, hr'⟩⟩ := HB.out
          · exact ⟨h0, .inl h⟩
          · exact ⟨h0, .inr ⟨gg, cap', cur, e, hgb, (hg5.block gg (Array.getElem?_eq_some_iff.1 hb).1 (fun e2 => HAP.out gg e2.symm (by rw [e]; rfl))).trans hb, hr'⟩⟩)
        have P5 : Hid (∀ q, v5.ownBlock = some q → (Value.slice uaB mB ucB).ownBlock ≠ some q) := hideP (fun q e1 e2 => by
          rcases hat5 with h | h
          · exact HAP.out q (h.symm.trans e1) e2
          · have h3 := Option.some.inj (h.symm.trans e1)
            have h4 := (World.ownsRow.lt HB.out q e2).2
            omega)
        have B5 : Hid (Below W0.heap.size W0 w5) := hideP (Below.grown HBW.out hg5 hwr (fun j hj => (World.ownsRow.lt HA.out j hj).1))
        obtain ⟨a5, c5, rfl⟩ := ownG_shape ho5
        clear ho5 hg5 hat5 n100 hu
        go_wp2
        go_roundw
        case rel => exact ⟨k + 1, by omega, congrArg _ (by push_cast; omega), by rw [HF1.out], ⟨_, O5.out⟩, ⟨_, N5.out⟩, P5.out, HSM.out, B5.out⟩
        case measure => simp [intOf]; omega
    · have hki : ¬ ((s + k : Nat) : Int) < (b : Int) := by omega
      obtain rfl : k = b - s := by omega
      have hzt : zs.take (b - s) = zs := List.take_of_length_le (by rw [HZL.out]; exact Nat.le_refl _)
      rw [hzt] at HA HB
      obtain ⟨nb, hnb⟩ : ∃ nb, nb = noteB (zs.take (b - s)) := ⟨_, rfl⟩
      rw [← hnb]
      have HNB : Hid (nb = noteB zs) := hideP (by rw [hnb, hzt])
      clear hnb hzt hBw
      cases nb with
      | false =>
        have HA9 : Hid (wr.ownsRow w.heap.size 60 15 (.slice uaA mA ucA) PL.length (flatN PL)) := hideP (by
          have he : PL = zs.flatMap (segA xs) := by rw [HPZ.out]; unfold pageL; rw [if_neg (by rw [← HNB.out]; simp)]
          have hm : mA = PL.length := by have h1 := HA.out.1; rw [flatN_len] at h1; rw [he]; omega
          rw [← hm, he]
          exact ownG_mono HA.out B0.out.size)
        go_wp2
        go_ret
        exact ⟨⟨_, rfl, HA9.out⟩, below_more B0.out HBW.out B0.out.size⟩
      | true =>
        obtain ⟨y2, y3, y4, y5, y6⟩ := HC0.out wr HBW.out
        obtain ⟨gB, rfl⟩ : ∃ gB, uaB = some ⟨gB, 0, none⟩ := by
          obtain ⟨q, hq⟩ := HSM.out
          rcases HB.out.2 with ⟨h0, h1⟩ | ⟨g', cap', cur, hv, _⟩
          · rw [h0] at hq
            simp [Value.ownBlock] at hq
          · simp only [Value.slice.injEq] at hv
            exact ⟨g', hv.1⟩
        go_wp2_with (at_builtin; refine Hid.out ?_)
        refine hideP ?_
        obtain ⟨W3, hW3⟩ : ∃ W3, W3 = wr.alloc (.cells #[.int .i64 3, .int .i64 0, .int .i64 0, .int .i64 0, .int .i64 0, .int .i64 0, .int .i64 0, .int .i64 0, .int .i64 g0, .int .i64 g1, .int .i64 g2', .int .i64 g3, .int .i64 g4, .string ⟨#[]⟩, .int .i64 0] 60) := ⟨_, rfl⟩
        rw [← hW3]
        have A3 : Hid (W3.ownsRow W0.heap.size 60 15 (.slice uaA mA ucA) mA (flatN (zs.flatMap (segA xs)))) := hideP (by rw [hW3]; exact World.ownsRow.alloc HA.out _)
        have N3 : Hid (W3.ownsRow W0.heap.size 60 15 (.slice (some ⟨gB, 0, none⟩) mB ucB) mB (flatN (zs.flatMap (segB xs)))) := hideP (by rw [hW3]; exact World.ownsRow.alloc HB.out _)
        have B3 : Hid (Below W0.heap.size W0 W3) := hideP (by rw [hW3]; exact HBW.out.alloc hwr _)
        have G3 : W3.ownsRow W0.heap.size 60 15 (.slice (some ⟨wr.heap.size, 0, none⟩) 1 1) 1 (flatN [gapN g0 g1 g2' g3 g4]) := by rw [hW3]; exact ⟨rfl, .inr ⟨_, _, _, rfl, hwr, heap_alloc_new _ _, by omega, by unfold maxLen; omega, rfl, rfl⟩⟩
        have HG3 := hideP G3
        have hwr3 : W0.heap.size ≤ W3.heap.size := B3.out.size
        clear G3 hW3
        refine wpList_append_at rfl (.tmp 46) (.tmp 50) 25 rfl W0.heap.size 60 i1 (ndV Nd.none) 15 128 Try.underlying25 hi1 hy0 hy1 hy2 rfl (by decide) (.slice uaA mA ucA) mA _ rfl A3.out ⟨wr.heap.size, 0, none⟩ 1 1 (flatN [gapN g0 g1 g2' g3 g4]) rfl rfl (fun j z hz => ?nws8) (flatN_one _) (by unfold maxLen; omega) (by omega) hwr3 ?_
        case nws8 =>
          have he : ((⟨wr.heap.size, 0, none⟩ : Addr).add j) = ⟨wr.heap.size, j, none⟩ := by simp only [Addr.add]; split <;> simp_all
          rw [he]
          have hj : j < 1 * 15 := by have h := (List.getElem?_eq_some_iff.1 hz).1; rw [HG3.out.1] at h; exact h
          rw [World.ownsRow.cellAt HG3.out j hj]
          exact hz
        intro v5 w5 ho5 hg5 hat5
        have O5 : Hid (w5.ownsRow W0.heap.size 60 15 v5 (mA + 1) (flatN (zs.flatMap (segA xs) ++ [gapN g0 g1 g2' g3 g4]))) := hideP (by rw [flatN_app]; exact ho5)
        have N5 : Hid (w5.ownsRow W0.heap.size 60 15 (.slice (some ⟨gB, 0, none⟩) mB ucB) mB (flatN (zs.flatMap (segB xs)))) := hideP (by
          obtain ⟨h0, h | ⟨gg, cap', cur, e, hgb, hb, hr'⟩⟩ := N3.out
          · exact ⟨h0, .inl h⟩
          · exact ⟨h0, .inr ⟨gg, cap', cur, e, hgb, (hg5.block gg (Array.getElem?_eq_some_iff.1 hb).1 (fun e2 => HAP.out gg e2.symm (by rw [e]; rfl))).trans hb, hr'⟩⟩)
        have B5 : Hid (Below W0.heap.size W0 w5) := hideP (Below.grown B3.out hg5 hwr3 (fun j hj => (World.ownsRow.lt A3.out j hj).1))
        have hwr5 : W0.heap.size ≤ w5.heap.size := B5.out.size
        obtain ⟨a5, c5, rfl⟩ := ownG_shape ho5
        clear ho5 hg5 hat5 y2 y3 y4 y5 y6
        go_wp2_with (at_builtin; refine Hid.out ?_)
        refine hideP ?_
        refine wpList_append_at rfl (.tmp 51) (.tmp 52) 25 rfl W0.heap.size 60 i1 (ndV Nd.none) 15 128 Try.underlying25 hi1 hy0 hy1 hy2 rfl (by decide) (.slice a5 (mA + 1) c5) (mA + 1) _ rfl O5.out ⟨gB, 0, none⟩ mB ucB (flatN (zs.flatMap (segB xs))) rfl N5.out.1 (fun j z hz => ?nws9) (flatN_one _) (by unfold maxLen; omega) (by omega) hwr5 ?_
        case nws9 =>
          have he : ((⟨gB, 0, none⟩ : Addr).add j) = ⟨gB, j, none⟩ := by simp only [Addr.add]; split <;> simp_all
          rw [he]
          have hj : j < mB * 15 := by have h := (List.getElem?_eq_some_iff.1 hz).1; rw [N5.out.1] at h; exact h
          rw [World.ownsRow.cellAt N5.out j hj]
          exact hz
        intro v6 w6 ho6 hg6 hat6
        have B6 : Hid (Below W0.heap.size W0 w6) := hideP (Below.grown B5.out hg6 hwr5 (fun j hj => (World.ownsRow.lt O5.out j hj).1))
        have O6 : Hid (w6.ownsRow w.heap.size 60 15 v6 PL.length (flatN PL)) := hideP (by
          have he : PL = zs.flatMap (segA xs) ++ [gapN g0 g1 g2' g3 g4] ++ zs.flatMap (segB xs) := by
            rw [HPZ.out]
            unfold pageL
            rw [if_pos HNB.out.symm]
            simp
          have h6 : w6.ownsRow W0.heap.size 60 15 v6 (mA + 1 + mB) (flatN PL) := by rw [he, flatN_app]; exact ho6
          have hm : mA + 1 + mB = PL.length := by have h1 := h6.1; rw [flatN_len] at h1; omega
          rw [← hm]
          exact ownG_mono h6 B0.out.size)
        obtain ⟨a6, c6, rfl⟩ := ownG_shape ho6
        clear ho6 hg6 hat6
        go_wp2
        go_ret
        exact ⟨⟨_, rfl, O6.out⟩, below_more B0.out B6.out B0.out.size⟩
end Go.Proofs.Ytjagagbelpihbaa

namespace Go.Proofs.Ytjagagbelpihbaa
open Go.RowKit
set_option linter.unusedVariables false
set_option linter.unusedSimpArgs false

/-- Whether a stack has a page from here to there. -/
def fitB (xs : List Nd) (S : Sh) (f t : Int) : Bool := listB xs && decide ((its xs).length ≤ 4000) && shB S && endsB (its xs) f t
/-- The page. -/
def pgL (xs : List Nd) (S : Sh) (f t : Int) : List Nd := if fitB xs S f t = true then pageL xs (gapN S.g0 S.g1 S.g2 S.g3 S.g4) (((its xs).drop (begI (its xs) f.toNat t.toNat)).take (t.toNat - begI (its xs) f.toNat t.toNat)) else []

set_option maxRecDepth 20000 in
set_option maxHeartbeats 4000000 in
theorem specPFits_any {v : Value} {xs : List Nd} {w : World} (S : Sh) (f t : Int) (h : NRow 0 w v xs) (hs : xs.length ≤ 1048576) (hcp : ∀ a n c, v = .slice a n c → n ≤ c ∧ c ≤ 9223372036854775807) :
    Calls Try.prog 47 #[v, shV S, .int .i64 f, .int .i64 t] w fun e W' => (fitB xs S f t = false → ∃ u, e = .returned (.tuple #[u, .bool false])) ∧ (fitB xs S f t = true → ∃ u, e = .returned (.tuple #[u, .bool true]) ∧ HR w.heap.size W' u xs) ∧ Below w.heap.size w W' := by
  have SC : Hid (∀ W, Below w.heap.size w W → Calls Try.prog 43 #[v] W fun e W' => (listB xs = false → ∃ u, e = .returned (.tuple #[u, .bool false])) ∧ (listB xs = true → ∃ u, e = .returned (.tuple #[u, .bool (decide (((its xs).length : Int) ≤ 4000))]) ∧ HR W.heap.size W' u xs) ∧ Below W.heap.size W W') := hideP (fun W hW => specStack2_any (SRow.below ndStable h hW) hs hcp)
  have SH : Hid (∀ W, Calls Try.prog 69 #[shV S] W fun e w' => e = .returned (.bool (shB S)) ∧ Below W.heap.size W w') := hideP (fun W => specSheet_any S W)
  obtain ⟨ao, n, cap, rfl, hl, hr⟩ := h
  obtain ⟨ob, hob⟩ : ∃ ob, ob = listB xs := ⟨_, rfl⟩
  obtain ⟨sb, hsb⟩ : ∃ sb, sb = shB S := ⟨_, rfl⟩
  obtain ⟨R, hR⟩ : ∃ R, R = fitB xs S f t := ⟨_, rfl⟩
  rw [← hob] at SC
  rw [← hsb] at SH
  rw [← hR]
  have HR' : Hid (R = (ob && decide ((its xs).length ≤ 4000) && sb && endsB (its xs) f t)) := hideP (by rw [hR, hob, hsb]; rfl)
  clear hr hl hcp hob hsb hR
  obtain ⟨s0, s1, s2, s3, s4, s5, s6, s7⟩ := S
  simp only [shV] at SH ⊢
  go_enter Try.func47, Try.ntmps47
  go_wp2_with fail
  refine (SC.out _ (by first | exact Below.refl _ _ | exact below1 _ _)).mono ?_
  rintro e w2 ⟨hf, ht, hb2⟩
  have B2 : Hid (Below w.heap.size w w2) := hideP (by first | exact hb2 | exact below_more (below1 _ _) hb2 (by simp))
  have hcb : w2.heap[w.heap.size]? = some (.cells #[.int .i64 s0, .int .i64 s1, .int .i64 s2, .int .i64 s3, .int .i64 s4, .int .i64 s5, .int .i64 s6, .int .i64 s7] 52 (0, 0)) := (hb2.block _ (by simp)).trans (heap_alloc_new _ _)
  have c0 : w2.cell? ⟨w.heap.size, 0, none⟩ = some (.int .i64 s0) := by rw [cell_of_row w2 _ _ _ _ _ hcb]; rfl
  have c1 : w2.cell? ⟨w.heap.size, 1, none⟩ = some (.int .i64 s1) := by rw [cell_of_row w2 _ _ _ _ _ hcb]; rfl
  have c2 : w2.cell? ⟨w.heap.size, 2, none⟩ = some (.int .i64 s2) := by rw [cell_of_row w2 _ _ _ _ _ hcb]; rfl
  have c3 : w2.cell? ⟨w.heap.size, 3, none⟩ = some (.int .i64 s3) := by rw [cell_of_row w2 _ _ _ _ _ hcb]; rfl
  have c4 : w2.cell? ⟨w.heap.size, 4, none⟩ = some (.int .i64 s4) := by rw [cell_of_row w2 _ _ _ _ _ hcb]; rfl
  have c5 : w2.cell? ⟨w.heap.size, 5, none⟩ = some (.int .i64 s5) := by rw [cell_of_row w2 _ _ _ _ _ hcb]; rfl
  have c6 : w2.cell? ⟨w.heap.size, 6, none⟩ = some (.int .i64 s6) := by rw [cell_of_row w2 _ _ _ _ _ hcb]; rfl
  have c7 : w2.cell? ⟨w.heap.size, 7, none⟩ = some (.int .i64 s7) := by rw [cell_of_row w2 _ _ _ _ _ hcb]; rfl
  clear hcb
  clear hb2 SC
  cases ob with
  | false =>
    obtain ⟨u, rfl⟩ := hf rfl
    have HE : Hid (R = false) := hideP (by rw [HR'.out]; rfl)
    clear hf ht
    go_wp2
    exact bodyPost_ret (v := .tuple #[u, .bool false]) (by simp [results, Try.results47, go_sem]) rfl ⟨fun _ => ⟨_, rfl⟩, fun h => absurd (h.symm.trans HE.out) (by simp), B2.out⟩
  | true =>
    obtain ⟨u, rfl, hh⟩ := ht rfl
    obtain ⟨uu, uc, rfl, _⟩ := hh.hd.is
    obtain ⟨N, hN⟩ : ∃ N, N = (its xs).length := ⟨_, rfl⟩
    have HN := hideP hN
    have hNN : (its xs).length = N := hN.symm
    simp only [hNN] at hh HR' ⊢
    clear hNN hN
    have HH := hideP hh
    clear hf hh ht
    by_cases h4 : N ≤ 4000
    · have h4i : (N : Int) ≤ 4000 := by omega
      have h4b : decide ((N : Int) ≤ 4000) = true := decide_eq_true h4i
      rw [h4b]
      rw [decide_eq_true h4] at HR'
      clear h4b
      go_wp2_with fail
      refine (SH.out _).mono ?_
      rintro e w3 ⟨rfl, hb3⟩
      have B3 : Hid (Below w.heap.size w w3) := hideP (below_more B2.out hb3 B2.out.size)
      have HH3 : Hid (HR w.heap.size w3 (.slice uu N uc) xs) := hideP ((HH.out.abv (Abv.below hb3)).mono (by first | exact Nat.le_refl _ | simp))
      clear hb3 HH
      cases sb with
      | false =>
        have HE : Hid (R = false) := hideP (by rw [HR'.out]; rfl)
        go_wp2
        exact bodyPost_ret (v := .tuple #[.slice uu N uc, .bool false]) (by simp [results, Try.results47, go_sem]) rfl ⟨fun _ => ⟨_, rfl⟩, fun h => absurd (h.symm.trans HE.out) (by simp), B3.out⟩
      | true =>
        by_cases hin : 0 ≤ f ∧ f ≤ t ∧ t ≤ (N : Int)
        · obtain ⟨i1, i2, i3⟩ := hin
          obtain ⟨a, rfl⟩ : ∃ a : Nat, t = (a : Int) := ⟨t.toNat, by omega⟩
          have CI : Hid (Calls Try.prog 44 #[.slice uu N uc, .int .i64 (a : Int)] w3 fun e w' => e = .returned (.bool (pbB (its xs) a)) ∧ Below w3.heap.size w3 w') := hideP (specIs_any a HH3.out.hd HN.out.symm (by omega) (by omega))
          have HE : Hid (R = pbB (its xs) a) := hideP (by
            rw [HR'.out]
            unfold endsB
            rw [decide_eq_true (by rw [← HN.out]; exact ⟨i1, i2, i3⟩)]
            simp)
          obtain ⟨pb, hpb⟩ : ∃ pb, pb = pbB (its xs) a := ⟨_, rfl⟩
          rw [← hpb] at CI HE
          have j1 : decide (f < 0) = false := decide_eq_false (by omega)
          have j2 : decide ((a : Int) < f) = false := decide_eq_false (by omega)
          have j3 : decide (N < a) = false := decide_eq_false (by omega)
          have j3' : decide ((N : Int) < (a : Int)) = false := decide_eq_false (by omega)
          have j4 : (a : Int) ≤ 4000 := by omega
          have j5 : (0 : Int) ≤ (a : Int) := by omega
          clear hpb HR' i1 i2 i3
          go_wp2_with fail
          refine CI.out.mono ?_
          rintro e w4 ⟨rfl, hb4⟩
          have B4 : Hid (Below w.heap.size w w4) := hideP (below_more B3.out hb4 B3.out.size)
          have HH4 : Hid (HR w.heap.size w4 (.slice uu N uc) xs) := hideP (HH3.out.abv (Abv.below hb4))
          clear hb4
          go_wp2
          exact bodyPost_ret (v := .tuple #[.slice uu N uc, .bool pb]) (by simp [results, Try.results47, go_sem]) rfl ⟨fun h => ⟨_, by rw [← HE.out, h]⟩, fun h => ⟨_, by rw [← HE.out, h], HH4.out⟩, B4.out⟩
        · have HE : Hid (R = false) := hideP (by
            rw [HR'.out]
            unfold endsB
            rw [decide_eq_false (by rw [← HN.out]; exact hin)]
            simp)
          by_cases j1 : f < 0
          · have j1b : decide (f < 0) = true := decide_eq_true j1
            clear hin j1
            go_wp2
            exact bodyPost_ret (v := .tuple #[.slice uu N uc, .bool false]) (by simp [results, Try.results47, go_sem]) rfl ⟨fun _ => ⟨_, rfl⟩, fun h => absurd (h.symm.trans HE.out) (by simp), B3.out⟩
          · by_cases j2 : f > t
            · have j1b : decide (f < 0) = false := decide_eq_false j1
              have j2b : decide (t < f) = true := decide_eq_true (by omega)
              clear hin j1 j2
              go_wp2
              exact bodyPost_ret (v := .tuple #[.slice uu N uc, .bool false]) (by simp [results, Try.results47, go_sem]) rfl ⟨fun _ => ⟨_, rfl⟩, fun h => absurd (h.symm.trans HE.out) (by simp), B3.out⟩
            · have j1b : decide (f < 0) = false := decide_eq_false j1
              have j2b : decide (t < f) = false := decide_eq_false (by omega)
              have j3 : decide ((N : Int) < t) = true := decide_eq_true (by omega)
              clear hin j1 j2
              go_wp2
              exact bodyPost_ret (v := .tuple #[.slice uu N uc, .bool false]) (by simp [results, Try.results47, go_sem]) rfl ⟨fun _ => ⟨_, rfl⟩, fun h => absurd (h.symm.trans HE.out) (by simp), B3.out⟩
    · have h4i : ¬ (N : Int) ≤ 4000 := by omega
      have h4b : decide ((N : Int) ≤ 4000) = false := decide_eq_false h4i
      rw [h4b]
      have HE : Hid (R = false) := hideP (by rw [HR'.out, decide_eq_false h4]; simp)
      clear h4b
      go_wp2
      exact bodyPost_ret (v := .tuple #[.slice uu N uc, .bool false]) (by simp [results, Try.results47, go_sem]) rfl ⟨fun _ => ⟨_, rfl⟩, fun h => absurd (h.symm.trans HE.out) (by simp), B2.out⟩

set_option maxRecDepth 20000 in
set_option maxHeartbeats 4000000 in
theorem specPageOf_any {v : Value} {xs : List Nd} {w : World} (S : Sh) (f t : Int) (h : NRow 0 w v xs) (hs : xs.length ≤ 1048576) (hcp : ∀ a n c, v = .slice a n c → n ≤ c ∧ c ≤ 9223372036854775807) :
    Calls Try.prog 27 #[v, shV S, .int .i64 f, .int .i64 t] w fun e W' => (∃ u, e = .returned u ∧ W'.ownsRow w.heap.size 60 15 u (pgL xs S f t).length (flatN (pgL xs S f t))) ∧ Below w.heap.size w W' := by
  have FC : Hid (∀ W, Below w.heap.size w W → Calls Try.prog 47 #[v, shV S, .int .i64 f, .int .i64 t] W fun e W' => (fitB xs S f t = false → ∃ u, e = .returned (.tuple #[u, .bool false])) ∧ (fitB xs S f t = true → ∃ u, e = .returned (.tuple #[u, .bool true]) ∧ HR W.heap.size W' u xs) ∧ Below W.heap.size W W') := hideP (fun W hW => specPFits_any S f t (SRow.below ndStable h hW) hs hcp)
  obtain ⟨L, hL⟩ : ∃ L, L = pgL xs S f t := ⟨_, rfl⟩
  rw [← hL]
  have HLL := hideP hL
  obtain ⟨ao, n, cap, rfl, hl, hr⟩ := h
  clear hL hr hl hcp
  by_cases hR : fitB xs S f t = true
  · have hRR := hR
    unfold fitB endsB at hRR
    simp only [Bool.and_eq_true, decide_eq_true_eq] at hRR
    obtain ⟨⟨⟨r1, r2⟩, r3⟩, ⟨r4, r5, r6⟩, r7⟩ := hRR
    obtain ⟨a, rfl⟩ : ∃ a : Nat, f = (a : Int) := ⟨f.toNat, by omega⟩
    obtain ⟨b, rfl⟩ : ∃ b : Nat, t = (b : Int) := ⟨t.toNat, by omega⟩
    have HE : Hid (L = pageL xs (gapN S.g0 S.g1 S.g2 S.g3 S.g4) (((its xs).drop (begI (its xs) a b)).take (b - begI (its xs) a b))) := hideP (by rw [HLL.out]; unfold pgL; rw [if_pos hR]; rfl)
    have PC : Hid (∀ (u : Value) (W : World) (lo : Nat), HR lo W u xs → Calls Try.prog 48 #[u, shV S, .int .i64 (a : Int), .int .i64 (b : Int)] W fun e w' => (∃ u, e = .returned u ∧ w'.ownsRow W.heap.size 60 15 u L.length (flatN L)) ∧ Below W.heap.size W w') := hideP (fun u W lo hu => by rw [HE.out]; exact specPage_any S a b hu r1 rfl (by omega) (by omega) r2)
    have ri : (a : Int) ≤ 4000 ∧ (b : Int) ≤ 4000 := by omega
    rw [hR] at FC
    clear hR r1 r2 r3 r4 r5 r6 r7
    obtain ⟨s0, s1, s2, s3, s4, s5, s6, s7⟩ := S
    simp only [shV] at FC PC ⊢
    go_enter Try.func27, Try.ntmps27
    go_wp2_with fail
    refine (FC.out _ (by first | exact Below.refl _ _ | exact below1 _ _)).mono ?_
    rintro e w2 ⟨_, ht, hb2⟩
    obtain ⟨u, rfl, hh⟩ := ht (by first | rfl | trivial)
    obtain ⟨uu, uc, rfl, _⟩ := hh.hd.is
    have hcb : w2.heap[w.heap.size]? = some (.cells #[.int .i64 s0, .int .i64 s1, .int .i64 s2, .int .i64 s3, .int .i64 s4, .int .i64 s5, .int .i64 s6, .int .i64 s7] 52 (0, 0)) := (hb2.block _ (by simp)).trans (heap_alloc_new _ _)
    have c0 : w2.cell? ⟨w.heap.size, 0, none⟩ = some (.int .i64 s0) := by rw [cell_of_row w2 _ _ _ _ _ hcb]; rfl
    have c1 : w2.cell? ⟨w.heap.size, 1, none⟩ = some (.int .i64 s1) := by rw [cell_of_row w2 _ _ _ _ _ hcb]; rfl
    have c2 : w2.cell? ⟨w.heap.size, 2, none⟩ = some (.int .i64 s2) := by rw [cell_of_row w2 _ _ _ _ _ hcb]; rfl
    have c3 : w2.cell? ⟨w.heap.size, 3, none⟩ = some (.int .i64 s3) := by rw [cell_of_row w2 _ _ _ _ _ hcb]; rfl
    have c4 : w2.cell? ⟨w.heap.size, 4, none⟩ = some (.int .i64 s4) := by rw [cell_of_row w2 _ _ _ _ _ hcb]; rfl
    have c5 : w2.cell? ⟨w.heap.size, 5, none⟩ = some (.int .i64 s5) := by rw [cell_of_row w2 _ _ _ _ _ hcb]; rfl
    have c6 : w2.cell? ⟨w.heap.size, 6, none⟩ = some (.int .i64 s6) := by rw [cell_of_row w2 _ _ _ _ _ hcb]; rfl
    have c7 : w2.cell? ⟨w.heap.size, 7, none⟩ = some (.int .i64 s7) := by rw [cell_of_row w2 _ _ _ _ _ hcb]; rfl
    clear hcb
    have B2 : Hid (Below w.heap.size w w2) := hideP (by first | exact hb2 | exact below_more (below1 _ _) hb2 (by simp))
    have HH := hideP hh
    clear hb2 hh ht FC
    go_wp2_with fail
    refine (PC.out _ _ _ HH.out).mono ?_
    rintro e w3 ⟨⟨v3, rfl, ho3⟩, hb3⟩
    have H3 := hideP (And.intro (ownG_mono ho3 B2.out.size) (below_more B2.out hb3 B2.out.size))
    clear ho3 hb3
    go_wp2
    go_ret
    exact ⟨⟨_, rfl, H3.out.1⟩, H3.out.2⟩
  · have hR' : fitB xs S f t = false := by simpa using hR
    have HE : Hid (L = []) := hideP (by rw [HLL.out]; unfold pgL; rw [if_neg hR])
    rw [hR'] at FC
    clear hR hR'
    obtain ⟨s0, s1, s2, s3, s4, s5, s6, s7⟩ := S
    simp only [shV] at FC ⊢
    go_enter Try.func27, Try.ntmps27
    go_wp2_with fail
    refine (FC.out _ (by first | exact Below.refl _ _ | exact below1 _ _)).mono ?_
    rintro e w2 ⟨hf, _, hb2⟩
    obtain ⟨u, rfl⟩ := hf (by first | rfl | trivial)
    have B2 : Hid (Below w.heap.size w w2) := hideP (by first | exact hb2 | exact below_more (below1 _ _) hb2 (by simp))
    clear hb2 hf FC
    go_wp2
    go_ret
    rw [HE.out]
    exact ⟨⟨_, rfl, ⟨rfl, .inr ⟨_, _, _, rfl, B2.out.size, heap_alloc_new w2 _, Nat.zero_le _, by unfold maxLen; omega, rfl, rfl⟩⟩⟩, B2.out.alloc B2.out.size _⟩
end Go.Proofs.Ytjagagbelpihbaa
