/-
  Where pages may end: the law's own walk.
-/
import Derived.Test.YtjagagbelpihbaaSpi
import Derived.Test.YtjagagbelpihbaaPbi
import Derived.OwnWalk
import Derived.Deep.QuietTactic
import Derived.BigQuiet
import Derived.WalkSmall
import Derived.LoopTactic
import Derived.Deep.Light
import Derived.Test.YtjagagbelpihbaaIts
import Derived.Test.YtjagagbelpihbaaIto
namespace Go.Proofs.Ytjagagbelpihbaa
open Go.RowKit
set_option linter.unusedVariables false
set_option linter.unusedSimpArgs false

theorem Heads.mono {lo lo' : Nat} {w : World} {v : Value} {ys : List It} (h : Heads lo w v ys) (hl : lo' ≤ lo) : Heads lo' w v ys := by
  obtain ⟨ao, cap, rfl, hc⟩ := h.is
  refine ⟨ao, cap, rfl, fun hp => ?_⟩
  obtain ⟨b, off, rfl, hlo, hlt, hcell⟩ := hc hp
  refine ⟨b, off, rfl, by omega, hlt, fun i hi => ?_⟩
  obtain ⟨u, rest, h1, h2⟩ := hcell i hi
  exact ⟨u, rest, h1, SRow.mono ndStable h2 hl⟩
theorem wpList_append_at {P : Program} {w : World} {ops : Array Oper} {rest : List Oper} {o : Oper} {a : Act} {Q : Exit → Act → World → Prop} (hgd : o.guard = none) (s x : Operand) (t : TypeId)
    (ho : o.op = .call { callee := .builtin .append, args := #[s, x], argTypes := #[t, t] })
    (base : Nat) (e : TypeId) (i : TypeInfo) (z : Value) (size bytes : Nat) (ht : P.underlying t = some (.slice e)) (hi : P.info? e = some i) (hz : i.zero = some z)
    (hsize : i.size = size) (hby : i.bytes = bytes) (hzs : z.cells.size = size) (hsz : 0 < size)
    (v : Value) (n : Nat) (xs : List Value) (hs : a.eval s = v) (hown : w.ownsRow base e size v n xs)
    (ad : Addr) (m c : Nat) (news : List Value) (hx : a.eval x = .slice (some ad) m c) (hl : news.length = m * size) (hnews : ∀ j u, news[j]? = some u → w.cell? (ad.add j) = some u) (h1 : ∀ u ∈ news, u.oneCell' = true)
    (h63 : n + m ≤ maxLen) (hbytes : (n + m) * bytes ≤ 140737488355328) (hbase : base ≤ w.heap.size)
    (h : ∀ v' w', w'.ownsRow base e size v' (n + m) (xs ++ news) → w.grownBy w' v.ownBlock → (v'.ownBlock = v.ownBlock ∨ v'.ownBlock = some w.heap.size) → wpList P ops Q rest (a.put o.dst v') w') : wpList P ops Q (o :: rest) a w :=
  wpList_plain hgd fun _ hK => wp_append_at s x t ho base e i z size bytes ht hi hz hsize hby hzs hsz v n xs hs hown ad m c news hx hl hnews h1 h63 hbytes hbase fun v' w' h2 h3 _ h5 => hK _ _ (h v' w' h2 h3 h5)
theorem heads_of {w : World} {base : Nat} {u : Value} {vs : List Value} {xs : List Nd} (hob : listB xs = true) (ho : w.ownsRow base 25 1 u (itemsOf xs).length vs) (hL : Lsts base w vs (fun i => (itemsOf xs).getD i [])) : Heads base w u (its xs) ∧ (itemsOf xs).length = (its xs).length := by
  have hlen : (itemsOf xs).length = (its xs).length := by unfold itemsOf its; rw [if_pos hob, List.length_map, List.length_map]
  have hvl := own25_len ho
  obtain ⟨ao, cap, rfl, hg⟩ := own25_shape ho
  refine ⟨⟨ao, cap, by rw [hlen], fun hp => ?_⟩, hlen⟩
  obtain ⟨g, rfl, hgb, hlt⟩ := hg (by omega)
  refine ⟨g, 0, rfl, hgb, hlt, fun i hi => ?_⟩
  have hu : vs[i]? = some (vs[i]'(by omega)) := List.getElem?_eq_getElem (by omega)
  have h1 : w.cell? ⟨g, 0 + i, none⟩ = some (vs[i]'(by omega)) := by rw [Nat.zero_add]; exact (own25_cell ho hu).1
  have h2 := own_NRow (hL.own i _ hu) rfl
  obtain ⟨u, hue⟩ : ∃ u, u = vs[i]'(by omega) := ⟨_, rfl⟩
  rw [← hue] at h1 h2
  have hi2 : i < (starts xs (xs.length + 1) 0).length := by simpa [its] using hi
  have hst := starts_lt xs (xs.length + 1) 0 _ (List.getElem_mem hi2)
  have e1 : (itemsOf xs).getD i [] = itemAt xs ((starts xs (xs.length + 1) 0)[i]) := by
    unfold itemsOf
    rw [if_pos hob]
    simp [List.getD, List.getElem?_map, List.getElem?_eq_getElem hi2]
  have e2 : (its xs).getD i It.none = itAt xs ((starts xs (xs.length + 1) 0)[i]) := by
    unfold its
    simp [List.getD, List.getElem?_map, List.getElem?_eq_getElem hi2]
  obtain ⟨p, hp⟩ : ∃ p, p = (starts xs (xs.length + 1) 0)[i] := ⟨_, rfl⟩
  rw [← hp] at e1 e2 hst
  have e3 : itemAt xs p = xs.getD p Nd.none :: (itemAt xs p).tail := by
    unfold itemAt
    have hd : xs.drop p = xs[p] :: xs.drop (p + 1) := List.drop_eq_getElem_cons hst
    rw [hd, Nat.add_comm 1, List.take_succ_cons]
    simp [List.getD, List.getElem?_eq_getElem hst]
  refine ⟨u, (itemAt xs p).tail, h1, ?_⟩
  rw [e2]
  show NRow base w u (xs.getD p Nd.none :: (itemAt xs p).tail)
  rw [← e3, ← e1]
  exact h2

set_option maxHeartbeats 4000000 in
theorem specStack_any {v : Value} {xs : List Nd} {w : World} (h : NRow 0 w v xs) (hs : xs.length ≤ 1048576) (hcp : ∀ a n c, v = .slice a n c → n ≤ c ∧ c ≤ 9223372036854775807) :
    Calls Try.prog 43 #[v] w fun e W' => (listB xs = false → ∃ u, e = .returned (.tuple #[u, .bool false])) ∧ (listB xs = true → ∃ u, e = .returned (.tuple #[u, .bool (decide (((its xs).length : Int) ≤ 4000))]) ∧ Heads w.heap.size W' u (its xs)) ∧ Below w.heap.size w W' := by
  have LC : Hid (∀ W, Below w.heap.size w W → Calls Try.prog 9 #[v] W fun e w' => e = .returned (.bool (listB xs)) ∧ Below W.heap.size W w') := hideP (fun W hW => specListOk_any (SRow.below ndStable h hW) hs)
  have IC : Hid (listB xs = true → ∀ W, Below w.heap.size w W → Calls Try.prog 13 #[v] W fun e W' => (∃ u cap, e = .returned (.slice u (its xs).length cap) ∧ Heads W.heap.size W' (.slice u (its xs).length cap) (its xs)) ∧ Below W.heap.size W W') := hideP (fun ho W hW => by
    refine (specItems_any (SRow.below ndStable h hW) hs hcp).mono ?_
    rintro e W' ⟨⟨u, vs, rfl, h1, h2⟩, h3⟩
    obtain ⟨hh, hlen⟩ := heads_of ho h1 h2
    obtain ⟨ao, cap, rfl, _⟩ := own25_shape h1
    rw [hlen] at hh ⊢
    exact ⟨⟨ao, cap, rfl, hh⟩, h3⟩)
  obtain ⟨ao, n, cap, rfl, hl, hr⟩ := h
  obtain ⟨ob, hob⟩ : ∃ ob, ob = listB xs := ⟨_, rfl⟩
  rw [← hob] at LC IC ⊢
  clear hr hl hcp hob
  have IC2 : Hid (ob = true → _) := IC
  clear IC
  go_enter Try.func43, Try.ntmps43
  go_wp2_with fail
  refine (LC.out _ (by first | exact Below.refl _ _ | exact below1 _ _)).mono ?_
  rintro e w2 ⟨rfl, hb2⟩
  have B2 : Hid (Below w.heap.size w w2) := hideP (by first | exact hb2 | exact below_more (below1 _ _) hb2 (by simp))
  clear hb2
  cases hq : ob with
  | false =>
    subst hq
    clear IC2 LC
    go_wp2
    exact bodyPost_ret (v := .tuple #[.slice (some ⟨w2.heap.size, 0, none⟩) 0 0, .bool false]) (by simp [results, Try.results43, go_sem]) rfl ⟨⟨_, rfl⟩, B2.out.alloc B2.out.size _⟩
  | true =>
    have IC3 := hideP (IC2.out hq)
    subst hq
    clear IC2 LC
    go_wp2_with fail
    refine (IC3.out _ B2.out).mono ?_
    rintro e w3 ⟨⟨u, uc, rfl, hh⟩, hb3⟩
    have B3 : Hid (Below w.heap.size w w3) := hideP (below_more B2.out hb3 B2.out.size)
    have HH := hideP hh
    clear hb3 hh
    go_wp2
    exact bodyPost_ret (v := .tuple #[.slice u (its xs).length uc, .bool (decide (((its xs).length : Int) ≤ 4000))]) (by simp [results, Try.results43, go_sem]) rfl ⟨⟨_, rfl, HH.out.mono B2.out.size⟩, B3.out⟩

set_option maxRecDepth 20000 in
set_option maxHeartbeats 8000000 in
theorem specPB_any {v : Value} {xs : List Nd} {w : World} (h : NRow 0 w v xs) (hs : xs.length ≤ 1048576) (hcp : ∀ a n c, v = .slice a n c → n ≤ c ∧ c ≤ 9223372036854775807) :
    Calls Try.prog 25 #[v] w fun e W' => (∃ u, e = .returned u ∧ W'.ownsRow w.heap.size 2 1 u (pbL xs).length ((pbL xs).map (Value.int .i64))) ∧ Below w.heap.size w W' := by
  have SC : Hid (∀ W, Below w.heap.size w W → Calls Try.prog 43 #[v] W fun e W' => (listB xs = false → ∃ u, e = .returned (.tuple #[u, .bool false])) ∧ (listB xs = true → ∃ u, e = .returned (.tuple #[u, .bool (decide (((its xs).length : Int) ≤ 4000))]) ∧ Heads W.heap.size W' u (its xs)) ∧ Below W.heap.size W W') := hideP (fun W hW => specStack_any (SRow.below ndStable h hW) hs hcp)
  have hN20 : listB xs = true → (its xs).length ≤ 20001 := fun ho => its_le (allOk ho)
  obtain ⟨ao, n, cap, rfl, hl, hr⟩ := h
  obtain ⟨ob, hob⟩ : ∃ ob, ob = listB xs := ⟨_, rfl⟩
  rw [← hob] at SC hN20
  have HOB := hideP hob
  obtain ⟨L, hL⟩ : ∃ L, L = pbL xs := ⟨_, rfl⟩
  rw [← hL]
  have HLL := hideP hL
  clear hob hr hl hcp hL
  go_enter Try.func25, Try.ntmps25
  go_wp2_with fail
  have B1 : Below w.heap.size w (w.alloc (.cells #[] 2)) := below1 _ _
  refine (SC.out _ B1).mono ?_
  rintro e w2 ⟨hf, ht, hb2⟩
  have B2 : Below w.heap.size w w2 := below_more B1 hb2 (by simp)
  have q2 : w2.heap[w.heap.size]? = some (.cells #[] 2 (0, 0)) := (hb2.block _ (by simp)).trans (heap_alloc_new _ _)
  have O2 : w2.ownsRow w.heap.size 2 1 (.slice (some ⟨w.heap.size, 0, none⟩) 0 0) 0 [] := ⟨rfl, .inr ⟨_, _, _, rfl, by omega, q2, by omega, by unfold maxLen; omega, rfl, rfl⟩⟩
  have HB2 := hideP B2
  have HO2 := hideP O2
  clear hb2 q2 B1 B2 O2 SC
  cases ob with
  | false =>
    obtain ⟨u, rfl⟩ := hf rfl
    have HE : Hid (L = []) := hideP (by rw [HLL.out]; unfold pbL; rw [if_neg (by rw [← HOB.out]; simp)])
    clear ht hf
    go_wp2
    go_loopw [3, 6] (fun s3 s6 wr => s3 = .slice (some ⟨w.heap.size, 0, none⟩) 0 0 ∧ s6 = .int .i64 0 ∧ wr = w2) (fun _ _ _ => 0)
    case atStart => exact ⟨rfl, rfl, rfl⟩
    case round =>
      obtain ⟨rfl, rfl, rfl⟩ := hrel
      go_wp2
      go_ret
      refine ⟨⟨_, rfl, ?_⟩, HB2.out⟩
      rw [HE.out]
      exact HO2.out
  | true =>
    obtain ⟨u, rfl, hh⟩ := ht rfl
    obtain ⟨N, hN⟩ : ∃ N, N = (its xs).length := ⟨_, rfl⟩
    have hN2 := hN20 rfl
    rw [← hN] at hN2 ⊢
    have HN := hideP hN
    obtain ⟨uu, uc, rfl, _⟩ := hh.is
    rw [← hN] at hh ⊢
    by_cases h4 : (N : Int) ≤ 4000
    · have h4b : decide ((N : Int) ≤ 4000) = true := decide_eq_true h4
      rw [h4b]
      have HH := hideP hh
      clear hf hN hh hN20
      have HF0 : Hid (w2.ownsRow w.heap.size 2 1 (.slice (some ⟨w.heap.size, 0, none⟩) 0 0) (fl (its xs) 0).length ((fl (its xs) 0).map (Value.int .i64))) := HO2
      go_wp2
      go_loopw [3, 6] (fun s3 s6 wr => ∃ (k : Nat) (u : Value), k ≤ N + 1 ∧ s6 = .int .i64 k ∧ s3 = u ∧ wr.ownsRow w.heap.size 2 1 u (fl (its xs) k).length ((fl (its xs) k).map (Value.int .i64)) ∧ (∀ gg, u.ownBlock = some gg → gg = w.heap.size ∨ w2.heap.size ≤ gg) ∧ Abv (w.alloc (.cells #[] 2)).heap.size w2 wr ∧ Below w.heap.size w wr) (fun _ s _ => N + 1 - (intOf s).toNat)
      case atStart => exact ⟨0, _, by omega, rfl, rfl, HF0.out, fun gg e => .inl (by simpa [Value.ownBlock] using e.symm), Abv.refl _ _, HB2.out⟩
      case round =>
        obtain ⟨k, u, hk, rfl, rfl, ho, hgg, hav, hB⟩ := hrel
        have hhr := HH.out.abv hav
        have HGG := hideP hgg
        have HAV := hideP hav
        by_cases hkN : k < N + 1
        · have hki : (k : Int) ≤ (N : Int) := by omega
          have BC : Hid (Calls Try.prog 44 #[.slice uu N uc, .int .i64 (k : Int)] wr fun e w' => e = .returned (.bool (pbB (its xs) k)) ∧ Below wr.heap.size wr w') := hideP (specIs_any k hhr HN.out.symm (by omega) (by omega))
          obtain ⟨pb, hpb⟩ : ∃ b, b = pbB (its xs) k := ⟨_, rfl⟩
          rw [← hpb] at BC
          have hfl := fl_succ (its xs) k
          rw [← hpb] at hfl
          have HFL := hideP hfl
          have hfk := fl_len (its xs) k
          obtain ⟨m, hm⟩ : ∃ m, m = (fl (its xs) k).length := ⟨_, rfl⟩
          rw [← hm] at ho hfk
          have HM := hideP hm
          have HO := hideP ho
          have HHr := hideP hhr
          have HBr := hideP hB
          obtain ⟨ua2, uc2, rfl⟩ := ownG_shape ho
          clear hfl hpb hm ho hhr hB hgg hav
          go_wp2_with fail
          refine BC.out.mono ?_
          rintro e w6 ⟨rfl, hb6⟩
          have O6 := ownG_below HO.out hb6
          have H6 : Abv (w.alloc (.cells #[] 2)).heap.size w2 w6 := HAV.out.trans (Abv.below hb6)
          have B6 : Below w.heap.size w w6 := below_more HBr.out hb6 HBr.out.size
          have HO6 := hideP O6
          have HH6 := hideP H6
          have HB6 := hideP B6
          have hsz6 : w.heap.size ≤ w6.heap.size := B6.size
          clear hb6 O6 H6 B6
          cases pb with
          | false =>
            go_wp2
            go_roundw
            case rel =>
              refine ⟨k + 1, _, by omega, by go_num, rfl, ?_, HGG.out, HH6.out, HB6.out⟩
              rw [HFL.out]
              simp only [if_neg (show ¬ (false = true) by decide), Bool.false_eq_true, if_false]
              rw [← HM.out]
              exact HO6.out
            case measure => simp [intOf]; omega
          | true =>
            obtain ⟨j0, hj, hy0, hy1, hy2⟩ := info_parts Try.info2i
            go_wp2_with (at_builtin; refine wpList_append_at rfl _ _ 38 rfl w.heap.size 2 j0 _ 1 8 Try.underlying38 hj hy0 hy1 hy2 rfl (by decide) _ _ _ rfl (World.ownsRow.alloc HO6.out _) ⟨w6.heap.size, 0, none⟩ 1 1 [.int .i64 (k : Int)] rfl rfl (cell_one_new _ _ _) (by simp [Value.oneCell']) (by unfold maxLen; omega) (by omega) (by simp; omega) ?_)
            intro v5 w5 ho5 hg5 hat5
            have hsa : (w6.alloc (.cells #[.int .i64 (k : Int)] 2)).heap.size = w6.heap.size + 1 := by simp
            have hwa : (w.alloc (.cells #[] 2)).heap.size = w.heap.size + 1 := by simp
            have hb5 : ∀ q : Nat, q < w6.heap.size → (Value.slice ua2 m uc2).ownBlock ≠ some q → w5.heap[q]? = w6.heap[q]? := fun q hq hn => (hg5.block q (by omega) (fun e => hn e.symm)).trans (Below.heap_alloc _ _ _ hq)
            have hz2 : w2.heap.size ≤ w6.heap.size := HH6.out.size
            have G5 : Hid (∀ gg, v5.ownBlock = some gg → gg = w.heap.size ∨ w2.heap.size ≤ gg) := hideP (fun gg e => by
              rcases hat5 with h | h
              · exact HGG.out gg (h.symm.trans e)
              · have := Option.some.inj (h.symm.trans e)
                omega)
            have A5 : Hid (Abv (w.alloc (.cells #[] 2)).heap.size w2 w5) := hideP ⟨Nat.le_trans hz2 (Nat.le_trans (by omega) hg5.size), fun q hq1 hq2 => (hb5 q (by omega) (fun e => by rcases HGG.out q e with h | h <;> omega)).trans (HH6.out.block q hq1 hq2)⟩
            have B5 : Hid (Below w.heap.size w w5) := hideP (by
              have b := HB6.out
              refine ⟨hg5.os.trans b.os, hg5.tape.trans b.tape, hg5.output.trans b.output, Nat.le_trans b.size (Nat.le_trans (by omega) hg5.size), fun q hq => (hb5 q (Nat.lt_of_lt_of_le hq hsz6) (fun e => ?_)).trans (b.block q hq)⟩
              have := (World.ownsRow.lt HO6.out q e).1
              omega)
            have O5 : Hid (w5.ownsRow w.heap.size 2 1 v5 (m + 1) ((fl (its xs) k).map (Value.int .i64) ++ [.int .i64 (k : Int)])) := hideP ho5
            clear ho5 hg5 hat5 hb5 hsa hwa
            go_wp2
            go_roundw
            case rel =>
              refine ⟨k + 1, _, by omega, by go_num, rfl, ?_, G5.out, A5.out, B5.out⟩
              rw [HFL.out]
              simp only [if_true]
              rw [List.length_append, List.length_singleton, ← HM.out, List.map_append]
              exact O5.out
            case measure => simp [intOf]; omega
        · have hki : ¬ (k : Int) ≤ (N : Int) := by omega
          obtain rfl : k = N + 1 := by omega
          have HE : Hid (L = fl (its xs) (N + 1)) := hideP (by rw [HLL.out]; unfold pbL fl; rw [if_pos ⟨HOB.out.symm, by rw [← HN.out]; omega⟩, HN.out])
          have HO := hideP ho
          have HBr := hideP hB
          clear ho hhr hB hgg hav
          go_wp2
          go_ret
          refine ⟨⟨_, rfl, ?_⟩, HBr.out⟩
          rw [HE.out]
          exact HO.out
    · have h4b : decide ((N : Int) ≤ 4000) = false := decide_eq_false h4
      rw [h4b]
      have HE : Hid (L = []) := hideP (by rw [HLL.out]; unfold pbL; rw [if_neg (by rw [← HN.out]; omega)])
      clear hf hN hh hN20 h4
      go_wp2
      go_loopw [3, 6] (fun s3 s6 wr => s3 = .slice (some ⟨w.heap.size, 0, none⟩) 0 0 ∧ s6 = .int .i64 0 ∧ wr = w2) (fun _ _ _ => 0)
      case atStart => exact ⟨rfl, rfl, rfl⟩
      case round =>
        obtain ⟨rfl, rfl, rfl⟩ := hrel
        go_wp2
        go_ret
        refine ⟨⟨_, rfl, ?_⟩, HB2.out⟩
        rw [HE.out]
        exact HO2.out
end Go.Proofs.Ytjagagbelpihbaa

namespace Go.Proofs.Ytjagagbelpihbaa
open Go.RowKit
set_option linter.unusedVariables false
set_option linter.unusedSimpArgs false

/-- In world w the slice v reads as the numbers zs. -/
def Row (w : World) (v : Value) (zs : List Int) : Prop :=
  ∃ ao n cap, v = .slice ao n cap ∧ zs.length = n ∧ (0 < n → ∃ b off, ao = some ⟨b, off, none⟩ ∧ b < w.heap.size ∧ ∀ i, i < n → w.cell? ⟨b, off + i, none⟩ = some (.int .i64 (zs.getD i 0)))

theorem Row.below {w w' : World} {v : Value} {zs : List Int} (h : Row w v zs) (hb : Below w.heap.size w w') : Row w' v zs := by
  obtain ⟨ao, n, cap, rfl, hn, hc⟩ := h
  refine ⟨ao, n, cap, rfl, hn, fun hp => ?_⟩
  obtain ⟨b, off, rfl, hlt, hcell⟩ := hc hp
  exact ⟨b, off, rfl, Nat.lt_of_lt_of_le hlt hb.size, fun i hi => (hb.cell (p := ⟨b, off + i, none⟩) hlt).trans (hcell i hi)⟩

theorem Row.own {w : World} {base g n cap : Nat} {zs : List Int} (h : w.ownsRow base 2 1 (.slice (some ⟨g, 0, none⟩) n cap) n (zs.map (Value.int .i64))) (hn : zs.length = n) (hg : g < w.heap.size) :
    Row w (.slice (some ⟨g, 0, none⟩) n cap) zs := by
  refine ⟨_, n, cap, rfl, hn, fun hp => ⟨g, 0, rfl, hg, fun i hi => ?_⟩⟩
  have := World.ownsRow.cellAt h i (by omega)
  simp only [Nat.zero_add]
  rw [this]
  simp [List.getElem?_map, List.getD, List.getElem?_eq_getElem (show i < zs.length by omega)]


theorem ownsRow_block {w : World} {base e size g n cap : Nat} {xs : List Value} (h : w.ownsRow base e size (.slice (some ⟨g, 0, none⟩) n cap) n xs) : g < w.heap.size := by
  rcases h.2 with ⟨h', _⟩ | ⟨g', cap', cur, h', _, hg, _⟩
  · simp at h'
  · simp only [Value.slice.injEq, Option.some.injEq, Addr.mk.injEq, and_true, true_and] at h'
    obtain ⟨rfl, rfl⟩ := h'
    by_cases hb : g < w.heap.size
    · exact hb
    · simp [Array.getElem?_eq_none (show w.heap.size ≤ g by omega)] at hg

theorem getD_ext {xs ys : List Int} (hl : xs.length = ys.length) (h : ∀ j, j < xs.length → xs.getD j 0 = ys.getD j 0) : xs = ys := by
  refine List.ext_getElem hl fun i h1 h2 => ?_
  have := h i h1
  simpa [List.getD, List.getElem?_eq_getElem h1, List.getElem?_eq_getElem h2] using this

set_option maxHeartbeats 1000000 in
theorem eqInts_any {v1 v2 : Value} {xs ys : List Int} {w : World} (h1 : Row w v1 xs) (h2 : Row w v2 ys) (hx : xs.length ≤ 1048576) :
    Calls Try.prog 22 #[v1, v2] w fun e w' => e = .returned (.bool (decide (xs = ys))) ∧ Below w.heap.size w w' := by
  obtain ⟨ao1, n1, cap1, rfl, hn1, hr1⟩ := h1
  obtain ⟨ao2, n2, cap2, rfl, hn2, hr2⟩ := h2
  rw [hn1] at hx
  have HN1 : Hid (xs.length = n1) := hn1
  have HN2 : Hid (ys.length = n2) := hn2
  have HR1 : Hid (0 < n1 → ∃ b off, ao1 = some ⟨b, off, none⟩ ∧ b < w.heap.size ∧ ∀ i, i < n1 → w.cell? ⟨b, off + i, none⟩ = some (.int .i64 (xs.getD i 0))) := hr1
  have HR2 : Hid (0 < n2 → ∃ b off, ao2 = some ⟨b, off, none⟩ ∧ b < w.heap.size ∧ ∀ i, i < n2 → w.cell? ⟨b, off + i, none⟩ = some (.int .i64 (ys.getD i 0))) := hr2
  clear hn1 hn2 hr1 hr2
  by_cases hne : n1 = n2
  · subst hne
    go_enter Try.func22, Try.ntmps22
    go_wp2
    go_loopw [5] (fun i wr => ∃ k : Nat, k ≤ n1 ∧ i = .int .i64 k ∧ (∀ j, j < k → xs.getD j 0 = ys.getD j 0) ∧ Below w.heap.size w wr) (fun i _ => n1 - (intOf i).toNat)
    case atStart => exact ⟨0, by omega, rfl, fun j hj => by omega, Below.refl _ _⟩
    case round =>
      obtain ⟨k, hk, rfl, hj, hbel⟩ := hrel
      have HJ : Hid (∀ j, j < k → xs.getD j 0 = ys.getD j 0) := hj
      clear hj
      by_cases hkn : k < n1
      · have hki : (k : Int) < (n1 : Int) := by omega
        obtain ⟨b, off, rfl, hb, hc⟩ := HR1 (by omega)
        obtain ⟨b', off', rfl, hb', hc'⟩ := HR2 (by omega)
        obtain ⟨x, hxk⟩ : ∃ x, x = xs.getD k 0 := ⟨_, rfl⟩
        obtain ⟨y, hyk⟩ : ∃ y, y = ys.getD k 0 := ⟨_, rfl⟩
        have hc1 : wr.cell? ⟨b, off + k, none⟩ = some (.int .i64 x) := by rw [hxk]; exact (hbel.cell (p := ⟨b, off + k, none⟩) hb).trans (hc k hkn)
        have hc2 : wr.cell? ⟨b', off' + k, none⟩ = some (.int .i64 y) := by rw [hyk]; exact (hbel.cell (p := ⟨b', off' + k, none⟩) hb').trans (hc' k hkn)
        have HX : Hid (x = xs.getD k 0 ∧ y = ys.getD k 0) := ⟨hxk, hyk⟩
        have HB : Hid (Below w.heap.size w wr) := hbel
        clear hxk hyk hbel hc hc'
        by_cases hxy : x = y
        · go_wp2
          go_quiet (fail)
          go_wp2
          go_roundw
          case rel =>
            refine ⟨k + 1, by omega, by go_num, fun j hj => ?_, below_drewN HB _⟩
            by_cases hjk : j = k
            · subst hjk; rw [← HX.1, ← HX.2]; exact hxy
            · exact HJ j (by omega)
          case measure => simp [intOf]; omega
        · go_wp2
          go_quiet (fail)
          go_wp2
          go_ret
          refine ⟨retB (decide_eq_false fun he => hxy ?_).symm, below_drewN HB _⟩
          rw [HX.1, HX.2, he]
      · have hki : ¬ (k : Int) < (n1 : Int) := by omega
        have HB : Hid (Below w.heap.size w wr) := hbel
        clear hbel
        go_wp2
        go_ret
        exact ⟨retB (decide_eq_true (getD_ext ((show xs.length = n1 from HN1).trans (show ys.length = n1 from HN2).symm) fun j hj => HJ j (by have := (show xs.length = n1 from HN1); omega))).symm, HB⟩
  · have hni : ((n1 : Int) == (n2 : Int)) = false := by simp; omega
    go_enter Try.func22, Try.ntmps22
    go_wp2
    go_ret
    refine ⟨retB (decide_eq_false fun he => hne ?_).symm, Below.refl _ _⟩
    rw [← (show xs.length = n1 from HN1), ← (show ys.length = n2 from HN2), he]

/-- The numbers from k on, n of them. -/
def ups (k : Int) (n : Nat) : List Int := (List.range n).map (fun j : Nat => k + (j : Int))
theorem ups_length (k : Int) (n : Nat) : (ups k n).length = n := by simp [ups]
theorem ups_at {k : Int} {n j : Nat} (h : j < n) : (ups k n).getD j 0 = k + j := by
  simp [ups, List.getD, List.getElem?_map, List.getElem?_range h]

set_option maxHeartbeats 1000000 in
theorem markInts_any {base e g n cap : Nat} {zs : List Int} {w : World} {k : Int} (h : w.ownsRow base e 1 (.slice (some ⟨g, 0, none⟩) n cap) n (zs.map (Value.int .i64))) (hn : n ≤ 1048576) (hk0 : 0 ≤ k) (hk1 : k ≤ 4611686018427387904) :
    Calls Try.prog 23 #[.slice (some ⟨g, 0, none⟩) n cap, .int .i64 k] w fun e' w' => e' = .returned (.int .i64 (k + n)) ∧ w'.ownsRow base e 1 (.slice (some ⟨g, 0, none⟩) n cap) n ((ups k n).map (Value.int .i64)) ∧ Below g w w' ∧ w'.heap.size = w.heap.size ∧ (∀ b, b ≠ g → w'.heap[b]? = w.heap[b]?) := by
  have HO : Hid (w.ownsRow base e 1 (.slice (some ⟨g, 0, none⟩) n cap) n (zs.map (Value.int .i64))) := h
  have hzl : zs.length = n := by simpa using h.1
  have HZ : Hid (zs.length = n) := hzl
  clear h hzl
  go_enter Try.func23, Try.ntmps23
  go_wp2
  go_loopw [1, 5] (fun s i wr => ∃ (j : Nat) (ys : List Int), j ≤ n ∧ i = .int .i64 j ∧ s = .int .i64 (k + j) ∧ ys.length = n ∧ (∀ t, t < j → ys.getD t 0 = k + t) ∧
      wr.ownsRow base e 1 (.slice (some ⟨g, 0, none⟩) n cap) n (ys.map (Value.int .i64)) ∧ Below g w wr ∧ wr.heap.size = w.heap.size ∧ (∀ b, b ≠ g → wr.heap[b]? = w.heap[b]?))
    (fun _ i _ => n - (intOf i).toNat)
  case atStart => exact ⟨0, zs, by omega, rfl, by simp, HZ, fun t ht => by omega, HO, Below.refl _ _, rfl, fun b _ => rfl⟩
  case round =>
    obtain ⟨j, ys, hj, rfl, rfl, hyl, hyv, hown, hbel, hsz, hoth⟩ := hrel
    by_cases hjn : j < n
    · have hji : (j : Int) < (n : Int) := by omega
      have hfz : wr.frozen? ⟨g, j, none⟩ = false := World.ownsRow.frozenAt hown j
      have hco : wr.cell? ⟨g, j, none⟩ = some (.int .i64 (ys.getD j 0)) := by
        rw [World.ownsRow.cellAt hown j (by omega)]
        simp [List.getElem?_map, List.getD, List.getElem?_eq_getElem (show j < ys.length by omega)]
      have hown2 := (World.ownsRow.stored hown j (.int .i64 (k + j))).1
      have hbel2 := hbel.setCell (Nat.le_refl _) (p := ⟨g, j, none⟩) (.int .i64 (k + j))
      have HR2 : Hid ((wr.setCell ⟨g, j, none⟩ (.int .i64 (k + j))).ownsRow base e 1 (.slice (some ⟨g, 0, none⟩) n cap) n ((ys.set j (k + j)).map (Value.int .i64)) ∧ Below g w (wr.setCell ⟨g, j, none⟩ (.int .i64 (k + j))) ∧ (wr.setCell ⟨g, j, none⟩ (.int .i64 (k + j))).heap.size = w.heap.size ∧ (∀ b, b ≠ g → (wr.setCell ⟨g, j, none⟩ (.int .i64 (k + j))).heap[b]? = w.heap[b]?)) :=
        ⟨by simpa using hown2, hbel2, by simpa using hsz, fun b hb => (Below.heap_setCell _ _ _ _ hb).trans (hoth b hb)⟩
      have HV : Hid (∀ t, t < j → ys.getD t 0 = k + t) := hyv
      clear hown hbel hown2 hbel2 hyv hoth hsz
      go_wp2
      go_roundw
      case rel =>
        refine ⟨j + 1, ys.set j (k + j), by omega, by go_num, ?_, by simp [hyl], fun t ht => ?_, HR2.1, HR2.2.1, HR2.2.2.1, HR2.2.2.2⟩
        · first | go_num | (simp; omega)
        · by_cases htj : t = j
          · subst htj; simp [List.getD, hyl, hjn]
          · rw [← HV t (by omega)]; simp [List.getD, List.getElem?_set, Ne.symm htj]
      case measure => simp [intOf]; omega
    · obtain rfl : j = n := by omega
      have hys : ys = ups k j := getD_ext (by rw [hyl, ups_length]) fun t ht => by rw [hyv t (by omega), ups_at (by omega)]
      subst hys
      have HR2 : Hid (wr.ownsRow base e 1 (.slice (some ⟨g, 0, none⟩) j cap) j ((ups k j).map (Value.int .i64)) ∧ Below g w wr ∧ wr.heap.size = w.heap.size ∧ (∀ b, b ≠ g → wr.heap[b]? = w.heap[b]?)) := ⟨hown, hbel, hsz, hoth⟩
      clear hown hbel hsz hoth hyv
      go_wp2
      go_ret
      exact ⟨rfl, HR2⟩

set_option maxHeartbeats 1000000 in
theorem heldInts_any {v : Value} {n : Nat} {w : World} {k : Int} (h : Row w v (ups k n)) (hn : n ≤ 1048576) (hk0 : 0 ≤ k) (hk1 : k ≤ 4611686018427387904) :
    Calls Try.prog 24 #[v, .int .i64 k] w fun e' w' => e' = .returned (.int .i64 (k + n)) ∧ w' = w := by
  obtain ⟨ao, m, cap, rfl, hm, hr⟩ := h
  rw [ups_length] at hm
  subst hm
  have HR : Hid (0 < n → ∃ b off, ao = some ⟨b, off, none⟩ ∧ b < w.heap.size ∧ ∀ i, i < n → w.cell? ⟨b, off + i, none⟩ = some (.int .i64 ((ups k n).getD i 0))) := hr
  clear hr
  go_enter Try.func24, Try.ntmps24
  go_wp2
  go_loop [1, 5] (fun s i => ∃ j : Nat, j ≤ n ∧ i = .int .i64 j ∧ s = .int .i64 (k + j)) (fun _ i => n - (intOf i).toNat)
  case atStart => exact ⟨0, by omega, rfl, by simp⟩
  case round =>
    obtain ⟨j, hj, rfl, rfl⟩ := hrel
    by_cases hjn : j < n
    · have hji : (j : Int) < (n : Int) := by omega
      obtain ⟨b, off, rfl, hb, hc⟩ := HR (by omega)
      have hcell : w.cell? ⟨b, off + j, none⟩ = some (.int .i64 (k + j)) := by rw [hc j hjn, ups_at hjn]
      clear hc
      go_wp2
      go_round
      case rel =>
        refine ⟨j + 1, by omega, by go_num, ?_⟩
        first | go_num | (simp; omega)
      case measure => simp [intOf]; omega
    · obtain rfl : j = n := by omega
      go_wp2
      go_ret
      exact ⟨rfl, rfl⟩
end Go.Proofs.Ytjagagbelpihbaa

namespace Go.Proofs.Ytjagagbelpihbaa
open Go.RowKit Go.Shelf
set_option linter.unusedVariables false
set_option linter.unusedSimpArgs false

/-- A row of whole numbers in its memory. -/
def IG (base : Nat) (W : World) (V : Value) (L : List Int) : Prop := W.ownsRow base 2 1 V L.length (L.map (Value.int .i64))
theorem IG.below {base : Nat} {W W' : World} {V : Value} {L : List Int} (h : IG base W V L) (hb : Below W.heap.size W W') : IG base W' V L := ownG_below h hb
theorem IG.row {base : Nat} {W : World} {V : Value} {L : List Int} (h : IG base W V L) : Row W V L := by
  have h' := h
  obtain ⟨h0, ⟨rfl, hz⟩ | ⟨g, cap, cur, rfl, hg, hb, hr⟩⟩ := h
  · have : L = [] := List.eq_nil_of_length_eq_zero hz
    subst this
    exact ⟨none, 0, 0, rfl, rfl, fun h => by omega⟩
  · exact Row.own h' rfl (Array.getElem?_eq_some_iff.1 hb).1
theorem IG.keep {base : Nat} {W W' : World} {V : Value} {L : List Int} (h : IG base W V L) (hk : ∀ b, V.ownBlock = some b → W'.heap[b]? = W.heap[b]?) : IG base W' V L := by
  obtain ⟨h0, ho | ⟨g, cap, cur, e, hg, hb, hr⟩⟩ := h
  · exact ⟨h0, .inl ho⟩
  · exact ⟨h0, .inr ⟨g, cap, cur, e, hg, (hk g (by rw [e]; rfl)).trans hb, hr⟩⟩
theorem markNone_any {ao : Option Addr} {cap : Nat} (w : World) (k : Int) : Calls Try.prog 23 #[.slice ao 0 cap, .int .i64 k] w fun e w' => e = .returned (.int .i64 k) ∧ w' = w := by
  go_enter Try.func23, Try.ntmps23
  go_wp2
  refine wp_loop_rounds 1 ?_
  rw [rounds_succ]
  go_wp2
  go_ret
  exact ⟨rfl, rfl⟩
theorem markI_any {base : Nat} {W : World} {V : Value} {L : List Int} (h : IG base W V L) (hn : L.length ≤ 1048576) :
    Calls Try.prog 23 #[V, .int .i64 1] W fun e w' => e = .returned (.int .i64 (1 + (L.length : Int))) ∧ IG base w' V (ups 1 L.length) ∧ Below base W w' := by
  have h' := h
  obtain ⟨h0, ⟨rfl, hz⟩ | ⟨g, cap, cur, rfl, hg, hb, hr⟩⟩ := h
  · refine (markNone_any W 1).mono ?_
    rintro e w' ⟨rfl, rfl⟩
    have : L = [] := List.eq_nil_of_length_eq_zero hz
    subst this
    exact ⟨by simp, ⟨rfl, .inl ⟨rfl, rfl⟩⟩, Below.refl _ _⟩
  · refine (markInts_any h' hn (by omega) (by omega)).mono ?_
    rintro e w' ⟨rfl, h1, h2, _⟩
    refine ⟨rfl, ?_, h2.mono hg⟩
    unfold IG
    rw [ups_length]
    exact h1
theorem pbL_len (xs : List Nd) : (pbL xs).length ≤ 4001 := by
  unfold pbL
  split
  · rename_i h
    have h1 := fl_len (its xs) ((its xs).length + 1)
    unfold fl at h1
    omega
  · simp

set_option maxRecDepth 20000 in
set_option maxHeartbeats 4000000 in
theorem lawPB_any {v : Value} {xs : List Nd} {w : World} (h : NRow 0 w v xs) (hf : xs.length ≤ 9223372036854775807 ∧ ∀ i, i < xs.length → FnN (xs.getD i Nd.none)) :
    Calls Try.prog 6 #[v] w fun e w' => e = .returned (.bool true) ∧ Below w.heap.size w w' := by
  have HX := hideP h
  obtain ⟨ao, n, cap, rfl⟩ : ∃ a n c, v = .slice a n c := by obtain ⟨a, c, rfl⟩ := h.shape; exact ⟨_, _, _, rfl⟩
  have HF := hideP hf
  clear h hf
  go_enter Try.func6, Try.ntmps6
  go_wp2_with fail
  refine (szNodeS_any HX.out HF.out (by omega) (by omega)).mono ?_
  rintro e w1 ⟨⟨m, rfl, hml, hm⟩, hb1⟩
  have B1 : Hid (Below w.heap.size w w1) := hb1
  have HM := hideP hm
  clear hb1 hm
  by_cases hneg : m < 0
  · go_wp2
    go_ret
    exact ⟨rfl, B1⟩
  · have HS : Hid (xs.length ≤ 1048576) := hideP (HM.out (by omega)).1
    clear HM HF
    have hLL := pbL_len xs
    obtain ⟨L, hL⟩ : ∃ L, L = pbL xs := ⟨_, rfl⟩
    rw [← hL] at hLL
    obtain ⟨r, hr⟩ : ∃ r, r = L.length := ⟨_, rfl⟩
    have CS : Hid (∀ (V : Value) (W : World) (base : Nat), W.ownsRow base 60 15 V xs.length (flatN xs) → Calls Try.prog 25 #[V] W fun e W' => (∃ u, e = .returned u ∧ IG W.heap.size W' u L) ∧ Below W.heap.size W W') := hideP (fun V W base ho => by rw [hL]; exact specPB_any (SRow.mono ndStable (own_NRow ho rfl) (Nat.zero_le _)) HS.out (own_cap ho))
    have CI : Hid (∀ (V : Value) (W : World) (base : Nat), W.ownsRow base 60 15 V xs.length (flatN xs) → Calls Try.prog 26 #[V] W fun e W' => (∃ u, e = .returned u ∧ IG W.heap.size W' u L) ∧ Below W.heap.size W W') := hideP (fun V W base ho => by rw [hL]; exact implPB_any (SRow.mono ndStable (own_NRow ho rfl) (Nat.zero_le _)) HS.out (own_cap ho))
    have CE : Hid (∀ (V U : Value) (W : World) (b1 b2 : Nat), IG b1 W V L → IG b2 W U L → Calls Try.prog 22 #[V, U] W fun e w' => e = .returned (.bool true) ∧ Below W.heap.size W w') := hideP (fun V U W b1 b2 ho1 ho2 => by
      have h := eqInts_any ho1.row ho2.row (by omega)
      rw [decide_eq_true (rfl : L = L)] at h
      exact h)
    have CM : Hid (∀ (V : Value) (W : World) (base : Nat), IG base W V L → Calls Try.prog 23 #[V, .int .i64 1] W fun e w' => e = .returned (.int .i64 (1 + (r : Int))) ∧ IG base w' V (ups 1 r) ∧ Below base W w') := hideP (fun V W base ho => by rw [hr]; exact markI_any ho (by omega))
    have CH : Hid (∀ (V : Value) (W : World) (base : Nat), IG base W V (ups 1 r) → Calls Try.prog 24 #[V, .int .i64 1] W fun e w' => e = .returned (.int .i64 (1 + (r : Int))) ∧ w' = W) := hideP (fun V W base ho => heldInts_any ho.row (by omega) (by omega) (by omega))
    obtain ⟨kr, hkr⟩ : ∃ kr : Int, kr = 1 + (r : Int) := ⟨_, rfl⟩
    rw [← hkr] at CM CH
    have hkn2 : ¬ kr < 0 := by omega
    clear hL hr hLL hkr
    obtain ⟨z, hz⟩ : ∃ z, z = xs.length := ⟨_, rfl⟩
    have CT : Hid (∀ W, Below w.heap.size w W → Calls Try.prog 10 #[.slice ao n cap] W fun e w' => e = .returned (.slice (some ⟨W.heap.size, 0, none⟩) z z) ∧ w'.ownsRow W.heap.size 60 15 (.slice (some ⟨W.heap.size, 0, none⟩) z z) z (flatN xs) ∧ Below W.heap.size W w') := hideP (fun W hW => by rw [hz]; exact toNodeS_own (SRow.below ndStable HX.out hW) HS.out)
    have CQ : Hid (∀ (V U : Value) (W : World) (b1 b2 : Nat), W.ownsRow b1 60 15 V z (flatN xs) → W.ownsRow b2 60 15 U z (flatN xs) → Calls Try.prog 12 #[V, U] W fun e w' => e = .returned (.bool true) ∧ Below W.heap.size W w') := hideP (fun V U W b1 b2 ho1 ho2 => eqNodeS_same (SRow.mono ndStable (own_NRow ho1 hz.symm) (Nat.zero_le _)) (SRow.mono ndStable (own_NRow ho2 hz.symm) (Nat.zero_le _)) HS.out)
    rw [← hz] at CS CI HS
    clear hz HX
    go_wp2_with fail
    refine (CT.out w1 B1.out).mono ?_
    rintro e w2 ⟨rfl, ho2, hb2⟩
    have B2 : Hid (Below w.heap.size w w2) := hideP (below_more B1.out hb2 B1.out.size)
    have O2 := hideP ho2
    clear ho2 hb2
    go_wp2_with fail
    refine (CS.out _ _ _ O2.out).mono ?_
    rintro e w3 ⟨⟨u0, rfl, ho3⟩, hb3⟩
    obtain ⟨au, cu, rfl⟩ := ownG_shape ho3
    have B3 : Hid (Below w.heap.size w w3) := hideP (below_more B2.out hb3 B2.out.size)
    have U3 := hideP ho3
    clear ho3 hb3 O2
    go_wp2_with fail
    refine (CT.out w3 B3.out).mono ?_
    rintro e w4 ⟨rfl, ho4, hb4⟩
    have B4 : Hid (Below w.heap.size w w4) := hideP (below_more B3.out hb4 B3.out.size)
    have X4 := hideP ho4
    have U4 := hideP (U3.out.below hb4)
    have hlt : w3.heap.size < w4.heap.size := (World.ownsRow.lt ho4 _ rfl).2
    clear ho4 hb4
    go_wp2_with fail
    refine (CI.out _ _ _ X4.out).mono ?_
    rintro e w5 ⟨⟨g0, rfl, ho5⟩, hb5⟩
    obtain ⟨ag, cg, rfl⟩ := ownG_shape ho5
    have B5 : Hid (Below w.heap.size w w5) := hideP (below_more B4.out hb5 B4.out.size)
    have G5 := hideP ho5
    have X5 := hideP (own_below X4.out hb5)
    have U5 := hideP (U4.out.below hb5)
    have z5 : w4.heap.size ≤ w5.heap.size := hb5.size
    clear ho5 hb5 X4 U4
    go_wp2_with fail
    refine (CE.out _ _ _ _ _ G5.out U5.out).mono ?_
    rintro e w6 ⟨rfl, hb6⟩
    have B6 : Hid (Below w.heap.size w w6) := hideP (below_more B5.out hb6 B5.out.size)
    have G6 := hideP (G5.out.below hb6)
    have X6 := hideP (own_below X5.out hb6)
    have U6 := hideP (U5.out.below hb6)
    have z6 : w4.heap.size ≤ w6.heap.size := Nat.le_trans z5 hb6.size
    clear hb6 G5 X5 U5 z5
    go_wp2_with fail
    refine (CT.out w6 B6.out).mono ?_
    rintro e w7 ⟨rfl, ho7, hb7⟩
    have B7 : Hid (Below w.heap.size w w7) := hideP (below_more B6.out hb7 B6.out.size)
    have Y7 := hideP ho7
    have G7 := hideP (G6.out.below hb7)
    have X7 := hideP (own_below X6.out hb7)
    have U7 := hideP (U6.out.below hb7)
    have z7 : w4.heap.size ≤ w7.heap.size := Nat.le_trans z6 hb7.size
    clear hb7 ho7 G6 X6 U6 z6
    go_wp2_with fail
    refine (CQ.out _ _ _ _ _ X7.out Y7.out).mono ?_
    rintro e w8 ⟨rfl, hb8⟩
    have B8 : Hid (Below w.heap.size w w8) := hideP (below_more B7.out hb8 B7.out.size)
    have G8 := hideP (G7.out.below hb8)
    have X8 := hideP (own_below X7.out hb8)
    have U8 := hideP (U7.out.below hb8)
    have z8 : w4.heap.size ≤ w8.heap.size := Nat.le_trans z7 hb8.size
    clear hb8 G7 X7 U7 Y7 z7
    go_wp2_with fail
    refine (mark_own (k := 1) X8.out HS.out (by omega) (by omega)).mono ?_
    rintro e w9 ⟨rfl, ho9, hb9, hq9⟩
    have HBU : Hid (∀ b, (Value.slice au L.length cu).ownBlock = some b → b < w3.heap.size) := hideP (fun b hb => (World.ownsRow.lt U3.out b hb).2)
    have HBG : Hid (∀ b, (Value.slice ag L.length cg).ownBlock = some b → w4.heap.size ≤ b ∧ b < w8.heap.size) := hideP (fun b hb => World.ownsRow.lt G8.out b hb)
    have B9 : Hid (Below w.heap.size w w9) := hideP (B8.out.trans (hb9.mono (by have h1 := B3.out.size; have h2 := B8.out.size; omega)))
    have hother : ∀ b, b < w8.heap.size → b ≠ w3.heap.size → w9.heap[b]? = w8.heap[b]? := fun b hb hne => hq9 b hb (fun e => hne (by simp [Value.ownBlock] at e; exact e.symm))
    have G9 := hideP (G8.out.keep (fun b e => hother b (HBG.out b e).2 (by have := (HBG.out b e).1; omega)))
    have U9 := hideP (U8.out.keep (fun b e => hother b (by have := HBU.out b e; omega) (by have := HBU.out b e; omega)))
    have z9 : w4.heap.size ≤ w9.heap.size := Nat.le_trans z8 hb9.size
    clear hb9 hq9 ho9 G8 U8 X8 U3 hother z8
    obtain ⟨kz, hkz⟩ : ∃ kz : Int, kz = ((1 + 15 * z : Nat) : Int) := ⟨_, rfl⟩
    rw [← hkz]
    have hkn : ¬ kz < 0 := by omega
    clear hkz
    go_wp2_with fail
    refine (CE.out _ _ _ _ _ G9.out U9.out).mono ?_
    rintro e w10 ⟨rfl, hb10⟩
    have B10 : Hid (Below w.heap.size w w10) := hideP (below_more B9.out hb10 B9.out.size)
    have G10 := hideP (G9.out.below hb10)
    have U10 := hideP (U9.out.below hb10)
    have hw10 : w4.heap.size ≤ w10.heap.size := Nat.le_trans z9 hb10.size
    clear hb10 G9 U9
    go_wp2_with fail
    refine (CM.out _ _ _ G10.out).mono ?_
    rintro e w11 ⟨rfl, ho11, hb11⟩
    have B11 : Hid (Below w.heap.size w w11) := hideP (B10.out.trans (hb11.mono (by have h1 := B4.out.size; omega)))
    have G11 := hideP ho11
    have U11 := hideP (U10.out.keep (fun b e => hb11.block b (by have := HBU.out b e; omega)))
    clear hb11 ho11 G10 U10
    go_wp2_with fail
    refine (CH.out _ _ _ G11.out).mono ?_
    rintro e w12 ⟨rfl, rfl⟩
    have B12 := B11
    have G12 := G11
    have U12 := U11
    clear B11 G11 U11
    go_wp2_with fail
    refine (CT.out w12 B12.out).mono ?_
    rintro e w13 ⟨rfl, ho13, hb13⟩
    have B13 : Hid (Below w.heap.size w w13) := hideP (below_more B12.out hb13 B12.out.size)
    have Y13 := hideP ho13
    have G13 := hideP (G12.out.below hb13)
    have U13 := hideP (U12.out.below hb13)
    clear hb13 ho13 G12 U12
    go_wp2_with fail
    refine (CI.out _ _ _ Y13.out).mono ?_
    rintro e w14 ⟨⟨h0, rfl, ho14⟩, hb14⟩
    obtain ⟨ah, ch, rfl⟩ := ownG_shape ho14
    have B14 : Hid (Below w.heap.size w w14) := hideP (below_more B13.out hb14 B13.out.size)
    have H14 := hideP ho14
    have G14 := hideP (G13.out.below hb14)
    have U14 := hideP (U13.out.below hb14)
    clear ho14 hb14 G13 U13 Y13
    go_wp2_with fail
    refine (CE.out _ _ _ _ _ H14.out U14.out).mono ?_
    rintro e w15 ⟨rfl, hb15⟩
    have B15 : Hid (Below w.heap.size w w15) := hideP (below_more B14.out hb15 B14.out.size)
    have G15 := hideP (G14.out.below hb15)
    clear hb15 G14 U14 H14
    go_wp2_with fail
    refine (CH.out _ _ _ G15.out).mono ?_
    rintro e w16 ⟨rfl, rfl⟩
    clear G15
    go_wp2
    go_ret
    exact ⟨rfl, B15.out⟩
end Go.Proofs.Ytjagagbelpihbaa
