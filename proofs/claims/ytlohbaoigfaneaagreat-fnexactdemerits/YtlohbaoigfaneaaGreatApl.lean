import Derived.Test.YtlohbaoigfaneaaGreatTns
import Derived.Test.YtlohbaoigfaneaaGreatAiu
import Derived.Test.YtlohbaoigfaneaaGreatPay
import Derived.Test.YtlohbaoigfaneaaGreatIts
import Derived.ControlIn
import Derived.Test.YtlohbaoigfaneaaGreatInts
import Derived.Deep.Cut
import Derived.Test.YtlohbaoigfaneaaGreatTrn
import Derived.Test.YtlohbaoigfaneaaGreatLrw
namespace Go.Proofs.YtlohbaoigfaneaaGreat
open Go.RowKit Go.Shelf
set_option linter.unusedVariables false
set_option linter.unusedSimpArgs false
attribute [local go_sem] Oper.semAt_some
theorem flatN_ap : ∀ (a b : List Nd), flatN (a ++ b) = flatN a ++ flatN b
 | [], b => rfl
 | x :: a, b => by simp only [List.cons_append, flatN, flatN_ap a b, List.append_assoc]
theorem NN.bel {w w' : World} {v : Value} {xs : List Nd} (h : NN 0 w v xs) (hb : Below w.heap.size w w') : NN 0 w' v xs := by
 rcases h with h | ⟨b, off, cap, rfl, h1, h2, h3, h4⟩
 ·exact .inl h
 ·refine .inr ⟨b, off, cap, rfl, h1, h2, fun h => Nat.lt_of_lt_of_le (h3 h) hb.size, fun j u hj => ?_⟩
  have h0 : 0 < xs.length := by
   cases xs with
   | nil => simp [flatN] at hj
   | cons _ _ => simp
  exact (hb.cell (p := ⟨b, off + j, none⟩) (h3 h0)).trans (h4 j u hj)
theorem NN.take {w : World} {ao : Option Addr} {n cap k : Nat} {xs : List Nd} (h : NN 0 w (.slice ao n cap) xs) (hk : k ≤ n) (hn : xs.length = n) : NN 0 w (.slice ao k cap) (xs.take k) := by
 rcases h with ⟨e, rfl⟩ | ⟨b, off, c, e, h1, h2, h3, h4⟩
 ·simp only [Value.slice.injEq] at e
  obtain ⟨rfl, rfl, rfl⟩ := e
  obtain rfl : k = 0 := by omega
  exact .inl ⟨rfl, by simp⟩
 ·simp only [Value.slice.injEq] at e
  obtain ⟨rfl, rfl, rfl⟩ := e
  refine .inr ⟨b, off, cap, by rw [List.length_take, Nat.min_eq_left hk], by rw [List.length_take, Nat.min_eq_left hk]; omega, h2, fun hp => h3 (by rw [List.length_take] at hp; omega), fun j u hj => h4 j u ?_⟩
  have : flatN (xs.take k) ++ flatN (xs.drop k) = flatN xs := by rw [← flatN_ap, List.take_append_drop]
  rw [← this]
  exact (List.getElem?_append_left (List.getElem?_eq_some_iff.1 hj).1).trans hj
def parC (S : Sy) (v : Value) : Array Value := #[.int .i64 S.wd, .int .i64 S.nw, .int .i64 S.hg, .int .i64 S.tl, .int .i64 S.ln, .int .i64 S.hy, .int .i64 S.du, .int .i64 S.ad, .int .i64 S.l0, .int .i64 S.l1, .int .i64 S.l2, .int .i64 S.l3, .int .i64 S.l4, .int .i64 S.r0, .int .i64 S.r1, .int .i64 S.r2, .int .i64 S.r3, .int .i64 S.r4, .int .i64 S.f0, .int .i64 S.f1, .int .i64 S.f2, .int .i64 S.f3, .int .i64 S.f4, v, .slice none 0 0, .slice none 0 0, .slice none 0 0]
theorem build_par (S : Sy) (na : Option Addr) (nl nc : Nat) (W : World) : (Instr.build 89 #[(0, syV S), (1, .slice na nl nc)]).run Tryz.prog W = .ok (.agg (parC S (.slice na nl nc))) W := by kernel_rfl
theorem build_op {a : Act} {oi : Oper} {p q : Operand} {S : Sy} {na : Option Addr} {nl nc : Nat} (ho : oi.op = Op.build 89 #[(0, p), (1, q)]) (hp : a.eval p = syV S) (hq : a.eval q = .slice na nl nc) (W : World) : (execOp a.eval oi).run Tryz.prog W = .ok (.value (.agg (parC S (.slice na nl nc)))) W := by
 unfold execOp
 simp only [ho, List.map_toArray, List.map_cons, List.map_nil, hp, hq, Sem.run_bind, build_par, Result.andThen_ok, Sem.run_pure]
theorem wp_noPanic {P : Program} {c : Code} {K : Act → World → Prop} {Q : Exit → Act → World → Prop} {a : Act} {w : World} (h : c.wp P (Exit.then K (fun _ _ _ => False)) a w) : c.wp P (Exit.then K Q) a w :=
 wp_mono h (fun e a' w' hq => by
  cases e with
  | normal => exact hq
  | exit id => exact hq.elim
  | goto l => exact hq.elim
  | ret => exact hq.elim
  | panic ch => exact hq.elim
  | outgrown => exact hq.elim)
theorem load_sy {a : Act} {oi : Oper} {p : Operand} {G : Nat} {cs : Array Value} (hsz : cs.size = 23) (ho : oi.op = Op.load 35 p) (hp : a.eval p = .pointer (some ⟨G, 0, none⟩)) (W : World) (h : W.heap[G]? = some (.cells cs 35 (0, 0))) : (execOp a.eval oi).run Tryz.prog W = .ok (.value (.agg cs)) W := by
 have hr := loadSy hsz h
 unfold execOp
 simp only [ho, hp, Instr.loadAt, Instr.sureAddr, Sem.run_bind, Sem.run_pure, Result.andThen_ok, hr]
theorem Src.far {xs : List Nd} {ao : Option Addr} {Bs b off cap C : Nat} {A : World} {v : Value} (h : Src xs ao Bs b off cap A) (h1 : C ≠ Bs) (h2 : 0 < xs.length → C ≠ b) : Src xs ao Bs b off cap (A.setCell ⟨C, 0, none⟩ v) := by
 refine ⟨?_, h.some_, fun i hi => ?_⟩
 ·rw [World.cell?_setCell_far _ _ _ _ (show C ≠ Bs from h1)]
  exact h.box
 ·obtain ⟨y, hk, hc⟩ := h.at_ i hi
  refine ⟨y, hk, fun j hj => ?_⟩
  rw [World.cell?_setCell_far _ _ _ _ (show C ≠ b from h2 (by omega))]
  exact hc j hj
def thsO (S : Sy) : Obj := .cells #[.iface 155 (.agg #[.int .i64 10000]), .iface 152 (.agg #[.int .i64 S.f0, .int .i64 S.f1, .int .i64 S.f2, .int .i64 S.f3, .int .i64 S.f4, .int .i64 0]), .iface 155 (.agg #[.int .i64 (-10000)])] 150 (0, 0)
def ths (S : Sy) : List Nd := [penN 10000, gapN S.f0 S.f1 S.f2 S.f3 S.f4, penN (-10000)]
theorem ths_at {W : World} {S : Sy} {TB i : Nat} (h : W.heap[TB]? = some (thsO S)) (hi : i < 3) : ∃ (X Kn : Nat) (p : Value) (y : Nd), W.cell? ⟨TB, i, none⟩ = some (.iface X p) ∧ (∀ W' : World, (method 393 X p "loop.example/g00014/impl.node").run Tryz.prog W' = .ok (Kn, p) W') ∧ (∀ args W', (callFunc Kn args).run Tryz.prog W' = .ok (.enter Kn args) W') ∧ (∀ W' : World, Calls Tryz.prog Kn #[p] W' fun r w' => r = .returned (ndV y) ∧ Below W'.heap.size W' w') ∧ (ths S).take (i + 1) = (ths S).take i ++ [y] := by
 rw [cell_of_row W TB i _ 150 _ h]
 rcases (show i = 0 ∨ i = 1 ∨ i = 2 by omega) with rfl | rfl | rfl
 ·exact ⟨155, 187, _, penN 10000, rfl, fun _ => by kernel_rfl, enters_of Tryz.func187 (by kernel_rfl) rfl, fun W' => node_penalty _ W', rfl⟩
 ·exact ⟨152, 185, _, gapN S.f0 S.f1 S.f2 S.f3 S.f4, rfl, fun _ => by kernel_rfl, enters_of Tryz.func185 (by kernel_rfl) rfl, fun W' => node_space _ _ _ _ _ _ W', rfl⟩
 ·exact ⟨155, 187, _, penN (-10000), rfl, fun _ => by kernel_rfl, enters_of Tryz.func187 (by kernel_rfl) rfl, fun W' => node_penalty _ W', rfl⟩
def ParW (S : Sy) (w : World) (PB D TB : Nat) (L : List Nd) (X : World) : Prop := ∃ na m nc, L.length = m ∧ ParB X PB S (.slice na m nc) (.slice none 0 0) (.slice none 0 0) (.slice none 0 0) ∧ X.ownsRow w.heap.size 61 15 (.slice na m nc) m (flatN L) ∧ X.heap[D]? = some (.deferred (some [])) ∧ X.heap[TB]? = some (thsO S) ∧ Below w.heap.size w X
theorem ownH_kind {base e s n g : Nat} {w : World} {v : Value} {xs : List Value} (h : w.ownsRow base e s v n xs) (hg : v.ownBlock = some g) : base ≤ g ∧ g < w.heap.size ∧ ∃ cur, w.heap[g]? = some (.cells cur e (0, 0)) := by
 rcases h.2 with ⟨rfl, _⟩ | ⟨g', cap, cur, rfl, hg0, hg', _⟩
 ·cases hg
 ·simp [Value.ownBlock] at hg
  subst hg
  exact ⟨hg0, (Array.getElem?_eq_some_iff.1 hg').1, cur, hg'⟩
theorem ownH_same {w w' : World} {base e s n : Nat} {v : Value} {xs : List Value} (h : w.ownsRow base e s v n xs) (hs : ∀ g, v.ownBlock = some g → w'.heap[g]? = w.heap[g]?) : w'.ownsRow base e s v n xs := by
 obtain ⟨hl, h | ⟨g, cap, cur, rfl, hg, hb, hr⟩⟩ := h
 ·exact ⟨hl, .inl h⟩
 ·exact ⟨hl, .inr ⟨g, cap, cur, rfl, hg, (hs g rfl).trans hb, hr⟩⟩
theorem ParB.nodes {w : World} {PB : Nat} {z5 : Sy} {a i b t t' : Value} (h : ParB w PB z5 a i b t) : ParB (w.setCell ⟨PB, 23, none⟩ t') PB z5 t' i b t := by
 obtain ⟨cur, q1, q2, q3, q4⟩ := h.put (o := 23) (t' := t') (by omega)
 exact ⟨⟨cur, q1, q2⟩, (q3 5 (by omega)).trans h.c5, q4, (q3 24 (by omega)).trans h.c24, (q3 25 (by omega)).trans h.c25, (q3 26 (by omega)).trans h.c26, fun p hp => (q3 p (by omega)).trans (h.sty p hp)⟩
theorem ParW.app {S : Sy} {w w6 w9 : World} {PB D TB m qc : Nat} {qa : Option Addr} {L : List Nd} {y : Nd} {o : Obj} {v9 : Value} (hl : L.length = m) (hpb : ParB w6 PB S (.slice qa m qc) (.slice none 0 0) (.slice none 0 0) (.slice none 0 0)) (ho : w6.ownsRow w.heap.size 61 15 (.slice qa m qc) m (flatN L)) (hd : w6.heap[D]? = some (.deferred (some []))) (ht : w6.heap[TB]? = some (thsO S)) (hb : Below w.heap.size w w6) (hP : w.heap.size ≤ PB)
 (hg : (w6.alloc o).grownBy w9 (Value.slice qa m qc).ownBlock) (ho9 : w9.ownsRow w.heap.size 61 15 v9 (m + 1) (flatN (L ++ [y]))) : ParW S w PB D TB (L ++ [y]) (w9.setCell ⟨PB, 23, none⟩ v9) := by
 obtain ⟨⟨cs, hcs, hcz⟩, _⟩ := hpb
 have hpb2 : ParB w6 PB S (.slice qa m qc) (.slice none 0 0) (.slice none 0 0) (.slice none 0 0) := ⟨⟨cs, hcs, hcz⟩, by assumption, by assumption, by assumption, by assumption, by assumption, by assumption⟩
 have key : ∀ (g : Nat) (q : Obj), w6.heap[g]? = some q → (∀ cur, q ≠ .cells cur 61 (0, 0)) → w9.heap[g]? = some q := fun g q hq hne => by
  have hl := (Array.getElem?_eq_some_iff.1 hq).1
  refine (hg.block g (by simp; omega) (fun e => ?_)).trans ((Below.heap_alloc _ _ _ hl).trans hq)
  obtain ⟨_, _, cur, hc⟩ := ownH_kind ho e.symm
  rw [hq] at hc
  exact hne cur (Option.some.inj hc)
 have hP9 := key PB _ hcs (fun cur e => by cases e)
 have hpb9 : ParB w9 PB S (.slice qa m qc) (.slice none 0 0) (.slice none 0 0) (.slice none 0 0) := hpb2.keep (hP9.trans hcs.symm)
 obtain ⟨a9, c9, rfl, _⟩ := own_shape ho9
 have hne : ∀ g q, w9.heap[g]? = some q → (∀ cur, q ≠ .cells cur 89 (0, 0)) → g ≠ PB := fun g q hq hn e => by
  subst e
  rw [hP9] at hq
  exact hn _ (Option.some.inj hq).symm
 refine ⟨a9, m + 1, c9, by simp [hl], hpb9.nodes, ownH_same ho9 (fun g hgo => Below.heap_setCell _ _ _ _ ?_), ?_, ?_, ?_⟩
 ·obtain ⟨_, _, cur, hc⟩ := ownH_kind ho9 hgo
  exact hne g _ hc (fun cur e => by cases e)
 ·have h1 := key D _ hd (fun cur e => by cases e)
  exact (Below.heap_setCell _ _ _ _ (hne D _ h1 (fun cur e => by cases e))).trans h1
 ·have h1 := key TB _ ht (fun cur e => by cases e)
  exact (Below.heap_setCell _ _ _ _ (hne TB _ h1 (fun cur e => by cases e))).trans h1
 ·have hb1 : Below w.heap.size w (w6.alloc o) := hb.alloc hb.size _
  exact (Below.grown hb1 hg hb1.size (fun g hgo => (ownH_kind ho hgo).1)).setCell (p := ⟨PB, 23, none⟩) hP _
theorem parB_new {W : World} {S : Sy} {v : Value} : ParB (W.alloc (.cells (parC S v) 89)) W.heap.size S v (.slice none 0 0) (.slice none 0 0) (.slice none 0 0) where
 blk := ⟨_, heap_alloc_new W _, rfl⟩
 c5 := cell_of_row _ _ 5 _ 89 _ (heap_alloc_new W _)
 c23 := cell_of_row _ _ 23 _ 89 _ (heap_alloc_new W _)
 c24 := cell_of_row _ _ 24 _ 89 _ (heap_alloc_new W _)
 c25 := cell_of_row _ _ 25 _ 89 _ (heap_alloc_new W _)
 c26 := cell_of_row _ _ 26 _ 89 _ (heap_alloc_new W _)
 sty := fun o ho => by
  rw [cell_of_row _ _ o _ 89 _ (heap_alloc_new W _), ← Array.getElem?_toList]
  show (syL S ++ [v, .slice none 0 0, .slice none 0 0, .slice none 0 0])[o]? = _
  rw [List.getElem?_append_left (by simpa [syL] using ho)]
theorem fr_below {w a b : World} {PB : Nat} (h : Below w.heap.size w a) (hP : w.heap.size ≤ PB) (hf : Fr PB a b) : Below w.heap.size w b :=
 ⟨hf.1.trans h.os, hf.2.1.trans h.tape, hf.2.2.1.trans h.output, Nat.le_trans h.size hf.2.2.2.1, fun k hk => (hf.2.2.2.2 k (Nat.lt_of_lt_of_le hk h.size) (by omega)).trans (h.block k hk)⟩
theorem sy_ord {S : Sy} (h : syB S = true) : Ord (gapN S.f0 S.f1 S.f2 S.f3 S.f4) := by
 unfold syB at h
 simp only [Bool.and_eq_true] at h
 have hg : glB S.f0 S.f1 S.f2 S.f3 S.f4 = true := by simp_all
 unfold glB at hg
 unfold Ord gapN
 simp only [Bool.and_eq_true, decide_eq_true_eq, uptoB] at hg
 simp only
 omega
theorem row_fst {xs : List Nd} {S : Sy} {K0 : Nat} {p q r : Int × Int} (hK : K0 = trm (its xs) (its xs).length) : ((its xs).take K0 ++ [(penN 10000, p), (gapN S.f0 S.f1 S.f2 S.f3 S.f4, q), (penN (-10000), r)]).map Prod.fst = (rowI xs S).map Prod.fst := by
 unfold rowI
 rw [← hK]
 simp
theorem back_bl {xs : List Nd} {S : Sy} {ys : List It} {n : Nat} (h : ys.map Prod.fst = (rowI xs S).map Prod.fst) (hn : n = ys.length) : (back ys n 0).reverse = bl0 xs S := by
 have hl : ys.length = (rowI xs S).length := by simpa using congrArg List.length h
 unfold back bl0
 rw [List.drop_zero, ← List.map_reverse, List.reverse_reverse, hn, hl]
 congr 1
 exact List.filter_congr (fun a _ => trnB_fst h a)
structure ParO (xs : List Nd) (S : Sy) (lo : Nat) (W : World) (PB : Nat) (L : List Nd) (ts : List Tn) (nv : Value) (B ic : Nat) (sv : Value) (g m c : Nat) : Prop where
 ok : listB xs = true ∧ syB S = true
 lst : L = xs.take (endK xs 0 (trm (its xs) (its xs).length)) ++ [penN 10000, gapN S.f0 S.f1 S.f2 S.f3 S.f4, penN (-10000)]
 hd : (its L).map Prod.fst = (rowI xs S).map Prod.fst
 ok3 : AllOk3 L
 few : (its L).length ≤ 2003
 par : ParB W PB S nv (.slice (some ⟨B, 0, none⟩) (its L).length ic) sv (.slice (some ⟨g, 0, none⟩) m c)
 nds : W.ownsRow lo 61 15 nv L.length (flatN L)
 itm : W.ownsRow lo 186 3 (.slice (some ⟨B, 0, none⟩) (its L).length ic) (its L).length (flatI (its L))
 tl : ts.length = m
 tf : ts.map (fun t => t.1) = -1 :: blL xs S
 trn : W.ownsRow lo 85 4 (.slice (some ⟨g, 0, none⟩) m c) m (flatT ts)
 shw : ∀ t ∈ ts, TurnP S.hy (its L) t W
 sms : W.ownsRow lo 116 9 sv (its L).length (flatM (its L) (its L).length)
 cnd : syB S = true ∧ listB xs = true ∧ (its xs).length ≤ 2000 ∧ (bl0 xs S).length ≤ 300
def ParR (xs : List Nd) (S : Sy) (w : World) (e : Ending) (W' : World) : Prop := (∃ p ok, e = .returned (.tuple #[.pointer p, .bool ok]) ∧ (ok = false → blL xs S = []) ∧ (ok = true → ∃ (PB : Nat) (L : List Nd) (ts : List Tn) (nv : Value) (B ic : Nat) (sv : Value) (g m c : Nat), p = some ⟨PB, 0, none⟩ ∧ w.heap.size ≤ PB ∧ ParO xs S w.heap.size W' PB L ts nv B ic sv g m c)) ∧ Below w.heap.size w W'
set_option maxRecDepth 100000 in
set_option maxHeartbeats 16000000 in
theorem par_any {v : Value} {xs : List Nd} {w : World} (S : Sy) (h : NRow 0 w v xs) (hs : xs.length ≤ 1048576) (hcp : ∀ a n c, v = .slice a n c → n ≤ c ∧ c ≤ 9223372036854775807) (hNN : NN 0 w v xs) :
 Calls Tryz.prog 30 #[v, syV S] w (ParR xs S w) := by
 have SC : Hid (∀ W, Calls Tryz.prog 65 #[syV S] W fun e w' => e = .returned (.bool (syB S)) ∧ Below W.heap.size W w') := hideP (fun W => implStyle_any S W)
 have LC : Hid (∀ W, Below w.heap.size w W → Calls Tryz.prog 66 #[v] W fun e w' => e = .returned (.bool (listB xs)) ∧ Below W.heap.size W w') := hideP (fun W hW => implListOk_any (SRow.below ndStable h hW) hs)
 have HROW := hideP h
 have HNN := hideP hNN
 have hsy : ∃ cs : Array Value, syV S = .agg cs ∧ cs.size = 23 := ⟨_, rfl, rfl⟩
 obtain ⟨cs, hcs, hsz⟩ := hsy
 rw [hcs] at SC ⊢
 have HCS := hideP hcs
 obtain ⟨ao, n, cap, rfl, hl, hr⟩ := h
 have hcap := hcp _ _ _ rfl
 obtain ⟨hcap1, hcap2⟩ := hcap
 have HL := hideP hl
 obtain ⟨sb, hsb⟩ : ∃ sb, sb = syB S := ⟨_, rfl⟩
 rw [← hsb] at SC
 obtain ⟨lb, hlb⟩ : ∃ lb, lb = listB xs := ⟨_, rfl⟩
 rw [← hlb] at LC
 have HSB := hideP hsb
 have HLB := hideP hlb
 clear hcs hsb hlb hl hr hNN
 refine (callsIn_wide (n := 5)).1 ?_
 refine callsIn_of_wp_marks Tryz.func30 rfl trivial ?_ rfl
 simp only [Tryz.ntmps30, List.size_toArray, List.length_cons, List.length_nil, Nat.reduceAdd, Nat.reduceSub, Array.replicate_succ, Array.replicate_zero, List.push_toArray, List.append_toArray, List.nil_append, List.cons_append]
 refine wpIn_wide.2 ?_
 obtain ⟨W1, hW1⟩ : ∃ W1, W1 = (w.alloc (.cells #[.slice ao n cap] 31)).alloc (.cells cs 35) := ⟨_, rfl⟩
 have hG1 : W1.heap[w.heap.size + 1]? = some (.cells cs 35 (0, 0)) := by rw [hW1]; have := heap_alloc_new (w.alloc (.cells #[.slice ao n cap] 31)) (.cells cs 35); simpa using this
 have hX1 : Boxed W1 w.heap.size 31 (.slice ao n cap) := by rw [hW1]; exact (Boxed.new w 31 (.slice ao n cap)).alloc _
 have B1 : Hid (Below w.heap.size w W1) := hideP (by rw [hW1]; exact below2 _ _ _)
 have hZ1 : W1.heap.size = w.heap.size + 2 := by rw [hW1]; simp
 have HG1 := hideP hG1
 have HX1 := hideP hX1
 have hx1 := hX1.cell
 clear hX1 hG1
 go_upto_region 1 with fail
 rw [← hW1]
 clear hW1
 go_cut [23] from 16 (fun s23 wc => (∃ t : Bool, s23 = .bool t ∧ (t = false ↔ sb = true ∧ lb = true)) ∧ Hid (Below W1.heap.size W1 wc))
 case first =>
  go_wp2_with (refine wpList_load_row rfl 35 _ rfl (w.heap.size + 1) rfl cs 35 (0, 0) HG1.out _ Tryz.underlying35 rfl (by rw [hsz]; kernel_rfl) ?_)
  refine (SC.out W1).mono ?_
  rintro e w2 ⟨rfl, hb2⟩
  have B2 := hideP hb2
  have BB2 : Hid (Below w.heap.size w w2) := hideP (below_more B1.out hb2 B1.out.size)
  have hx2 := (hb2.cell (p := ⟨w.heap.size, 0, none⟩) (by show w.heap.size < W1.heap.size; omega)).trans hx1
  clear hb2 hx1
  cases sb with
  | false =>
   go_wp2
   go_meet
   case rel => exact ⟨⟨_, rfl, by simp⟩, B2⟩
  | true =>
   go_wp2_with fail
   refine (LC.out w2 BB2.out).mono ?_
   rintro e w3 ⟨rfl, hb3⟩
   have B3 : Hid (Below W1.heap.size W1 w3) := hideP (below_more B2.out hb3 B2.out.size)
   clear hb3
   go_wp2
   go_meet
   case rel => exact ⟨⟨_, rfl, by simp⟩, B3⟩
 case rest =>
  obtain ⟨⟨t, rfl, ht⟩, BC⟩ := hcut
  have BW : Hid (Below w.heap.size w wc) := hideP (below_more B1.out BC.out B1.out.size)
  have HGC := hideP ((BC.out.block (w.heap.size + 1) (by omega)).trans HG1.out)
  have HXC : Hid (Boxed wc w.heap.size 31 (.slice ao n cap)) := hideP ((BC.out.block w.heap.size (by omega)).trans HX1.out)
  clear BC HX1 HG1 hx1 SC LC
  cases t with
  | true =>
   have hbl : blL xs S = [] := by
    unfold blL
    rw [if_neg]
    rintro ⟨h1, h2, h3, h4⟩
    have := ht.2 ⟨HSB.out.trans h1, HLB.out.trans h2⟩
    cases this
   have HBL := hideP hbl
   clear ht hbl
   go_wp2
   exact ⟨.tuple #[.pointer none, .bool false], (by simp [results, Tryz.results30, go_sem]), ⟨_, _, rfl, fun _ => HBL.out, fun h => by cases h⟩, BW.out⟩
  | false =>
   obtain ⟨rfl, rfl⟩ := ht.1 rfl
   clear ht
   have hxc := HXC.out.cell
   go_upto_region 4 with fail
   obtain ⟨W2, hW2⟩ : ∃ W2, W2 = (wc.alloc (.cells #[.int .i64 0] 3)).alloc (.cells #[.int .i64 0] 3) := ⟨_, rfl⟩
   rw [← hW2]
   have hwc : w.heap.size + 1 < wc.heap.size := (Array.getElem?_eq_some_iff.1 HGC.out).1
   have hZ2 : W2.heap.size = wc.heap.size + 2 := by rw [hW2]; simp
   have q6 : Boxed W2 wc.heap.size 3 (.int .i64 0) := by rw [hW2]; exact (Boxed.new wc 3 (.int .i64 0)).alloc _
   have q7 : Boxed W2 (wc.heap.size + 1) 3 (.int .i64 0) := by
    rw [hW2]
    have h := Boxed.new (wc.alloc (.cells #[.int .i64 0] 3)) 3 (.int .i64 0)
    rw [World.size_alloc] at h
    exact h
   have bc2 : Below wc.heap.size wc W2 := by rw [hW2]; exact below2 _ _ _
   have q2 : Boxed W2 w.heap.size 31 (.slice ao n cap) := (bc2.block _ (by omega)).trans HXC.out
   have q3 : W2.heap[w.heap.size + 1]? = some (.cells cs 35 (0, 0)) := (bc2.block _ (by omega)).trans HGC.out
   have B2 : Hid (Below w.heap.size w W2) := hideP (below_more BW.out bc2 BW.out.size)
   have hx2 := q2.cell
   clear hW2 bc2 HXC HGC hxc BW
   go_wp2_with fail
   refine (eachItem_any ao n cap _).mono ?_
   rintro e w2 ⟨rfl, rfl⟩
   go_wp2_with fail
   obtain ⟨b, off, hbo⟩ : ∃ b off, 0 < n → ao = some ⟨b, off, none⟩ ∧ b < w.heap.size ∧ ∀ j u, (flatN xs)[j]? = some u → w.cell? ⟨b, off + j, none⟩ = some u := by
    by_cases hn0 : 0 < n
    ·obtain ⟨ao', n', cap', he, hl', hr⟩ := HROW.out
     simp only [Value.slice.injEq] at he
     obtain ⟨rfl, rfl, rfl⟩ := he
     obtain ⟨b, off, e, _, hb, hc⟩ := hr hn0
     exact ⟨b, off, fun _ => ⟨e, hb, row_cells (fun i hi => hc i (by rw [← hl']; exact hi))⟩⟩
    ·exact ⟨0, 0, fun h => absurd h hn0⟩
   have HBO := hideP hbo
   clear hbo
   have AOK := hideP (allOk HLB.out.symm)
   obtain ⟨C, hC⟩ : ∃ C, C = wc.heap.size := ⟨_, rfl⟩
   rw [← hC] at q6 q7 hZ2 hwc
   rw [← hC]
   have bS : (W2.alloc (.cells #[.slice ao n cap] 31)).cell? ⟨C + 2, 0, none⟩ = some (.slice ao n cap) := by rw [← hZ2]; simp [go_sem]
   have hB0 : Below w.heap.size w (W2.alloc (.cells #[.slice ao n cap] 31)) := B2.out.alloc B2.out.size _
   have p2 := q2.alloc (.cells #[.slice ao n cap] 31)
   have p3 : (W2.alloc (.cells #[.slice ao n cap] 31)).heap[w.heap.size + 1]? = some (.cells cs 35 (0, 0)) := (Below.heap_alloc _ _ _ (by omega)).trans q3
   have p6 := q6.alloc (.cells #[.slice ao n cap] 31)
   have p7 := q7.alloc (.cells #[.slice ao n cap] 31)
   obtain ⟨W0, hW0⟩ : ∃ W0, W2.alloc (.cells #[.slice ao n cap] 31) = W0 := ⟨_, rfl⟩
   have hsz0 : W0.heap.size = C + 3 := by rw [← hW0]; simp; omega
   rw [hW0] at bS hB0 p2 p3 p6 p7 ⊢
   clear hW0 q2 q3 q6 q7 hx2 hC
   have HSR : Hid (Src xs ao (C + 2) b off cap W0) := hideP (by
    refine ⟨by rw [HL.out]; exact bS, fun h => (HBO.out (by rw [← HL.out]; exact h)).1, fun i hi => ⟨xs.getD i Nd.none, ⟨rfl, rfl⟩, fun j hj => ?_⟩⟩
    obtain ⟨_, hbw, hcell⟩ := HBO.out (by rw [← HL.out]; omega)
    have h1 := flatN_get xs i hi j hj
    rw [List.getElem?_eq_getElem (show j < (xs.getD i Nd.none).cells.length from hj)] at h1 ⊢
    have h2 := hcell _ _ h1
    rw [show off + i * 15 + j = off + (i * 15 + j) by omega]
    exact (hB0.cell (p := ⟨b, off + (i * 15 + j), none⟩) hbw).trans h2)
   have hys2 : xs.length ≤ 20000 ∧ ∀ i, i < xs.length → 0 ≤ (xs.getD i Nd.none).kids ∧ (xs.getD i Nd.none).kids ≤ 20000 := ⟨AOK.out.len, AOK.out.weak⟩
   refine (wpIn_wide (n := 5)).1 ?_
   refine wpIn_rangeFunc_ownF (F := Fence.wide) (n := 5) rfl (by omega) (gf := 108) (lb := #[.pointer (some ⟨C + 2, 0, none⟩)]) rfl trivial (enters_of Tryz.func108 (by kernel_rfl) rfl)
    (each_stops 4 (by omega) xs ao (C + 2) b off cap hys2.1 hys2.2 W0 HSR.out) (fun h1 h2 h => h2 (h1 h)) ?keepb (Below.refl _ _) (fun _ => rfl)
    (fun pre W => (Boxed W w.heap.size 31 (.slice ao n cap) ∧ W.heap[w.heap.size + 1]? = some (.cells cs 35 (0, 0)) ∧ Boxed W C 3 (.int .i64 (pre.length : Int)) ∧ Boxed W (C + 1) 3 (.int .i64 ((endP xs (pre.map (·.1.1)) : Nat) : Int)) ∧ C + 2 < W.heap.size) ∧ Below w.heap.size w W)
    (fun _ _ _ => False) ?ownI (fun _ _ _ _ _ hs _ _ => hs) ?start ?a1z ?assign ?body ?done ?stop
   case assign =>
    intro l x W K hK
    simp [Item.encs]
    gi_wp2
    exact hK
   case start => exact ⟨⟨p2, p3, p6, p7, by omega⟩, hB0⟩
   case keepb =>
    intro W l o o' hl hlo hoc _ hsrc
    exact hsrc.kept (grownBy_putObj' W l o') (fun r e => by cases e; exact ⟨o, hlo, hoc⟩)
   case ownI =>
    refine OwnFrom.and (Own.from ?_ _) (ownFrom_below (Nat.le_refl _) (by omega))
    rintro s A B row ⟨h1, h2, h3, h4, h5⟩ hg hr
    refine ⟨boxed_kept h1 hg hr, ?_, boxed_kept h3 hg hr, boxed_kept h4 hg hr, Nat.lt_of_lt_of_le h5 hg.size⟩
    refine (hg.block _ (Array.getElem?_eq_some_iff.1 h2).1 (fun e => ?_)).trans h2
    obtain ⟨o, ho, hc⟩ := hr _ e.symm
    rw [h2] at ho
    cases ho
    cases hc
   case stop =>
    rintro D c pre W _ _ h _
    exact h.elim
   case body =>
    rintro l pre x W ⟨⟨h1, h2, h3, h4, h5⟩, hB⟩ hpl
    have hat := x.2.1
    obtain ⟨y, hy, hyq⟩ := x.2.2
    obtain ⟨s1, s2, s3, s4, s5, s6, hta⟩ := hyq.2.1.sp
    have hyx := hy.1
    obtain ⟨at_, ha⟩ : ∃ a, x.1.1 = a := ⟨_, rfl⟩
    obtain ⟨vt, hv⟩ : ∃ v, x.1.2 = v := ⟨_, rfl⟩
    rw [ha] at hat hyx
    rw [hv] at hta
    rw [ha, hv]
    have HA : Hid ((pre ++ [x]).map (·.1.1) = pre.map (·.1.1) ++ [at_]) := hideP (by rw [List.map_append, List.map_singleton, ha])
    obtain ⟨gb, hgb⟩ : ∃ gb, gb = glueB y := ⟨_, rfl⟩
    rw [← hgb] at hta
    have HGB : Hid (gb = decide ((xs.getD at_ Nd.none).k = 3)) := hideP (by rw [hgb, hyx]; simp [glueB, Bool.beq_eq_decide_eq])
    clear ha hv hy hyq hgb hyx
    have hatn : at_ < n := by rw [← HL.out]; exact hat
    have hati : (at_ : Int) < (n : Int) := by omega
    obtain ⟨rfl, hbw, hcell⟩ := HBO.out (by omega)
    have hkk := AOK.out.kids at_ hat
    have hn20 : n ≤ 20000 := by rw [← HL.out]; exact AOK.out.len
    rw [HL.out] at hkk
    obtain ⟨kids, hkd⟩ : ∃ z, z = (xs.getD at_ Nd.none).kids := ⟨_, rfl⟩
    rw [← hkd] at hkk
    obtain ⟨kn, rfl⟩ : ∃ kn : Nat, kids = (kn : Int) := ⟨kids.toNat, by omega⟩
    have hsum : at_ + 1 + kn ≤ n := by omega
    have g14 : W.cell? ⟨b, off + at_ * 15 + 14, none⟩ = some (.int .i64 (kn : Int)) := by
     have h1 := flatN_at xs at_ hat 14 (by omega) (u := .int .i64 (xs.getD at_ Nd.none).kids) rfl
     rw [← hkd] at h1
     have h2 := hcell _ _ h1
     rw [show off + at_ * 15 + 14 = off + (at_ * 15 + 14) by omega]
     exact (hB.cell (p := ⟨b, off + (at_ * 15 + 14), none⟩) hbw).trans h2
    have hbW : b < W.heap.size := by have := hB.size; omega
    have HES : Hid (endP xs ((pre ++ [x]).map (·.1.1)) = if gb = true then endP xs (pre.map (·.1.1)) else at_ + 1 + kn) := hideP (by
     rw [HA.out, endP_snoc, HGB.out, ← hkd]
     by_cases h : (xs.getD at_ Nd.none).k = 3 <;> simp [h])
    have hpn : pre.length ≤ 20001 := by have := HL.out; omega
    obtain ⟨ce, hce⟩ : ∃ ce, ce = endP xs (pre.map (·.1.1)) := ⟨_, rfl⟩
    rw [← hce] at h4 HES
    have hc1 := h1.cell
    have hc3 := h3.cell
    have hf3 := h3.frozen
    have hc4 := h4.cell
    have hf4 := h4.frozen
    have HH : Hid (Boxed W w.heap.size 31 (.slice (some ⟨b, off, none⟩) n cap) ∧ W.heap[w.heap.size + 1]? = some (.cells cs 35 (0, 0)) ∧ Boxed W C 3 (.int .i64 (pre.length : Int)) ∧ Boxed W (C + 1) 3 (.int .i64 (ce : Int)) ∧ C + 2 < W.heap.size ∧ Below w.heap.size w W) := hideP ⟨h1, h2, h3, h4, h5, hB⟩
    have hwW : w.heap.size < W.heap.size := h1.lt
    have n1 : ¬ w.heap.size = C := by omega
    have n2 : ¬ C = w.heap.size := by omega
    have n3 : ¬ b = C := by omega
    have n4 : ¬ C = b := by omega
    have HS1 : Hid (∀ X, Src xs (some ⟨b, off, none⟩) (C + 2) b off cap X → ∀ v, Src xs (some ⟨b, off, none⟩) (C + 2) b off cap (X.setCell ⟨C, 0, none⟩ v)) := hideP (fun X hX v => hX.far (by omega) (fun _ => by omega))
    have HS2 : Hid (∀ X, Src xs (some ⟨b, off, none⟩) (C + 2) b off cap X → ∀ v, Src xs (some ⟨b, off, none⟩) (C + 2) b off cap (X.setCell ⟨C + 1, 0, none⟩ v)) := hideP (fun X hX v => hX.far (by omega) (fun _ => by omega))
    have hCw : w.heap.size ≤ C := by omega
    have hC1 : C + 1 < W.heap.size := by omega
    have n6 : ¬ C + 1 = W.heap.size := by omega
    have n7 : ¬ W.heap.size = C + 1 := by omega
    have n8 : ¬ C + 1 = C := by omega
    have n9 : ¬ C = C + 1 := by omega
    have m1 : ¬ w.heap.size = W.heap.size := by omega
    have m2 : ¬ b = W.heap.size := by omega
    clear h1 h2 h3 h4 hB hkk hkd hcell hce hpl
    cases gb with
    | true =>
     gi_wp2
     refine ⟨(KeepsOthers.setCell _ _ _).trans (KeepsOthers.alloc _ _), fun h => (HS1.out _ h _).grown (below1 _ _), ⟨(HH.out.1.other n1 _).alloc _, (Below.heap_alloc _ _ _ (by simp; omega)).trans ((Below.heap_setCell _ _ _ _ (show w.heap.size + 1 ≠ C by omega)).trans HH.out.2.1), ?_, ?_, by simp; omega⟩, ?_⟩
     ·rw [List.length_append, List.length_singleton]
      push_cast
      exact (HH.out.2.2.1.set _).alloc _
     ·rw [HES.out]
      exact (HH.out.2.2.2.1.other (by omega) _).alloc _
     ·have hB := HH.out.2.2.2.2.2
      exact (hB.setCell (p := ⟨C, 0, none⟩) hCw _).alloc (by simp; omega) _
    | false =>
     gi_wp2
     refine ⟨((KeepsOthers.setCell _ _ _).trans (KeepsOthers.setCell _ _ _)).trans (KeepsOthers.alloc _ _), fun h => (HS2.out _ (HS1.out _ h _) _).grown (below1 _ _), ⟨((HH.out.1.other n1 _).other (by omega) _).alloc _, (Below.heap_alloc _ _ _ (by simp; omega)).trans ((Below.heap_setCell _ _ _ _ (show w.heap.size + 1 ≠ C + 1 by omega)).trans ((Below.heap_setCell _ _ _ _ (show w.heap.size + 1 ≠ C by omega)).trans HH.out.2.1)), ?_, ?_, by simp; omega⟩, ?_⟩
     ·rw [List.length_append, List.length_singleton]
      push_cast
      exact ((HH.out.2.2.1.set _).other (by omega) _).alloc _
     ·rw [HES.out]
      simp only [Bool.false_eq_true, if_false]
      push_cast
      exact ((HH.out.2.2.2.1.other (by omega) _).set _).alloc _
     ·have hB := HH.out.2.2.2.2.2
      exact ((hB.setCell (p := ⟨C, 0, none⟩) hCw _).setCell (p := ⟨C + 1, 0, none⟩) (by show w.heap.size ≤ C + 1; omega) _).alloc (by simp; omega) _
   case done =>
    rintro D its' W hD hst ⟨⟨h1, h2, h3, h4, h5⟩, hB⟩ hK
    have hIL : its'.length = (its xs).length := by
     have h := congrArg List.length hst
     rw [List.length_map] at h
     rw [h]
     simp [its]
    have hEE : endP xs (its'.map (·.1.1)) = endK xs 0 (trm (its xs) (its xs).length) := by rw [hst]; exact endP_all xs
    rw [hIL] at h3
    rw [hEE] at h4
    obtain ⟨N, hN⟩ : ∃ N, N = (its xs).length := ⟨_, rfl⟩
    rw [← hN] at h3 h4
    obtain ⟨K0, hK0⟩ : ∃ K0, K0 = trm (its xs) N := ⟨_, rfl⟩
    rw [← hK0] at h4
    obtain ⟨ee, hee⟩ : ∃ ee, ee = endK xs 0 K0 := ⟨_, rfl⟩
    rw [← hee] at h4
    have HN := hideP hN
    have HK0 := hideP hK0
    have HEE := hideP hee
    have hN20 : N ≤ 20001 := by rw [hN]; exact its_le AOK.out
    have hx1 := h1.cell
    have hx3 := h3.cell
    have hx4 := h4.cell
    have HX1 := hideP h1
    have HX2 := hideP h2
    have HX5 := hideP h5
    have HBD := hideP hB
    have HKD := hideP hK
    have hDs : C + 3 ≤ D := by omega
    clear hN hK0 hee hIL hEE h1 h2 h3 h4 h5 hB hK hst bS hB0 p2 p3 p6 p7 HSR B2
    by_cases hN2 : 2000 < N
    ·have hNi : (2000 : Int) < (N : Int) := by omega
     have HBL : Hid (blL xs S = []) := hideP (by
      unfold blL
      rw [if_neg]
      rintro ⟨g1, g2, g3, g4⟩
      have := HN.out
      omega)
     go_wp2
     refine ⟨by simp, .inl ⟨_, _, rfl, run_takeDeferred HKD.out, ?_⟩⟩
     exact ⟨.tuple #[.pointer none, .bool false], (by simp [results, Tryz.results30, go_sem]), ⟨_, _, rfl, fun _ => HBL.out, fun h => by cases h⟩, HBD.out.trans (belowK_b (w := w) (Nat.le_refl _) W D _ _ (by omega) HKD.out rfl rfl)⟩
    ·have hNi : ¬ (2000 : Int) < (N : Int) := by omega
     have hcsv : cs[18]? = some (.int .i64 S.f0) ∧ cs[19]? = some (.int .i64 S.f1) ∧ cs[20]? = some (.int .i64 S.f2) ∧ cs[21]? = some (.int .i64 S.f3) ∧ cs[22]? = some (.int .i64 S.f4) := by
      have := HCS.out
      simp only [syV, Value.agg.injEq] at this
      rw [← this]
      exact ⟨rfl, rfl, rfl, rfl, rfl⟩
     obtain ⟨v18, v19, v20, v21, v22⟩ := hcsv
     have k18 := (cell_of_row W (w.heap.size + 1) 18 cs 35 _ HX2.out).trans v18
     have k19 := (cell_of_row W (w.heap.size + 1) 19 cs 35 _ HX2.out).trans v19
     have k20 := (cell_of_row W (w.heap.size + 1) 20 cs 35 _ HX2.out).trans v20
     have k21 := (cell_of_row W (w.heap.size + 1) 21 cs 35 _ HX2.out).trans v21
     have k22 := (cell_of_row W (w.heap.size + 1) 22 cs 35 _ HX2.out).trans v22
     go_upto_region 14 with fail
     obtain ⟨Z, hZ⟩ : ∃ Z, Z = W.alloc (.cells #[.iface 155 (.agg #[.int .i64 10000]), .iface 152 (.agg #[.int .i64 S.f0, .int .i64 S.f1, .int .i64 S.f2, .int .i64 S.f3, .int .i64 S.f4, .int .i64 0]), .iface 155 (.agg #[.int .i64 (-10000)])] 150) := ⟨_, rfl⟩
     rw [← hZ]
     have hZb : Below W.heap.size W Z := by rw [hZ]; exact below1 _ _
     have HZL : Hid (Z.heap[W.heap.size]? = some (.cells #[.iface 155 (.agg #[.int .i64 10000]), .iface 152 (.agg #[.int .i64 S.f0, .int .i64 S.f1, .int .i64 S.f2, .int .i64 S.f3, .int .i64 S.f4, .int .i64 0]), .iface 155 (.agg #[.int .i64 (-10000)])] 150 (0, 0))) := hideP (by rw [hZ]; exact heap_alloc_new W _)
     have hWl : w.heap.size + 1 < W.heap.size := (Array.getElem?_eq_some_iff.1 HX2.out).1
     have hCl : C + 1 < W.heap.size := by have := HX5.out; omega
     have hS : (fun X : World => X.heap[w.heap.size + 1]? = some (.cells cs 35 (0, 0)) ∧ X.cell? ⟨w.heap.size, 0, none⟩ = some (.slice ao n cap) ∧ X.cell? ⟨C + 1, 0, none⟩ = some (.int .i64 (ee : Int))) Z.drew := ⟨(hZb.block _ hWl).trans HX2.out, (hZb.cell (p := ⟨w.heap.size, 0, none⟩) (by show w.heap.size < W.heap.size; omega)).trans hx1, (hZb.cell (p := ⟨C + 1, 0, none⟩) hCl).trans hx4⟩
     have BZ : Hid (Below w.heap.size w Z) := hideP (below_more HBD.out hZb HBD.out.size)
     have hKZ : Hid (Z.heap[D]? = some (.deferred (some []))) := hideP ((hZb.block D (Array.getElem?_eq_some_iff.1 HKD.out).1).trans HKD.out)
     have hcut := its_cut (a := penN 10000) (b := gapN S.f0 S.f1 S.f2 S.f3 S.f4) (c := penN (-10000)) rfl rfl rfl AOK.out.kids (k := K0) (by rw [HK0.out, HN.out]; exact trm_le _ _)
     rw [← HEE.out] at hcut
     have heel : ee ≤ n := by rw [← HL.out]; exact hcut.1
     have HCUT := hideP hcut.2
     clear hZ hcut k18 k19 k20 k21 k22 v18 v19 v20 v21 v22 hx3
     refine wp_noPanic ?_
     refine wp_region_held_drew (S := (fun X : World => X.heap[w.heap.size + 1]? = some (.cells cs 35 (0, 0)) ∧ X.cell? ⟨w.heap.size, 0, none⟩ = some (.slice ao n cap) ∧ X.cell? ⟨C + 1, 0, none⟩ = some (.int .i64 (ee : Int)))) (by kernel_rfl) hS (fun hS => ?_)
     refine tkS (i := 0) (v := .agg cs) rfl hS ?_ (hr := fun wx hx => load_sy hsz rfl rfl wx hx.1)
     try simp only [Act.put, List.getElem_toArray, List.getElem_cons_zero, List.getElem_cons_succ, List.setIfInBounds_toArray, List.set_cons_zero, List.set_cons_succ]
     refine tkS (i := 1) (v := .slice ao n cap) rfl hS ?_
     try simp only [Act.put, List.getElem_toArray, List.getElem_cons_zero, List.getElem_cons_succ, List.setIfInBounds_toArray, List.set_cons_zero, List.set_cons_succ]
     refine tkS (i := 2) (v := .int .i64 (ee : Int)) rfl hS ?_
     try simp only [Act.put, List.getElem_toArray, List.getElem_cons_zero, List.getElem_cons_succ, List.setIfInBounds_toArray, List.set_cons_zero, List.set_cons_succ]
     have hec : ee ≤ cap := by omega
     have hn20 : n ≤ 20000 := by rw [← HL.out]; exact AOK.out.len
     have heci : (ee : Int) ≤ (cap : Int) := by omega
     refine tkS (i := 3) (v := .slice ao ee cap) rfl hS ?_
     try simp only [Act.put, List.getElem_toArray, List.getElem_cons_zero, List.getElem_cons_succ, List.setIfInBounds_toArray, List.set_cons_zero, List.set_cons_succ]
     refine rdS (i := 4) rfl (fun K hK => ?_)
     go_simp
     go_at_call 68
     refine (clone_any ((HNN.out.take heel HL.out).bel (Below.drew BZ.out)) (by rw [List.length_take, HL.out]; omega)).mono ?_
     rintro e' w5 ⟨nv, rfl, hno, hb5⟩
     rw [show (xs.take ee).length = ee by rw [List.length_take, HL.out]; omega] at hno
     obtain ⟨na, nc, hne, _⟩ := own_shape hno
     subst hne
     have hS2 : (fun X : World => X.heap[w.heap.size + 1]? = some (.cells cs 35 (0, 0)) ∧ X.cell? ⟨w.heap.size, 0, none⟩ = some (.slice ao n cap) ∧ X.cell? ⟨C + 1, 0, none⟩ = some (.int .i64 (ee : Int))) w5 := ⟨(hb5.block _ (Array.getElem?_eq_some_iff.1 hS.1).1).trans hS.1, (hb5.cell (p := ⟨w.heap.size, 0, none⟩) (World.block_lt_of_cell? _ _ hS.2.1)).trans hS.2.1, (hb5.cell (p := ⟨C + 1, 0, none⟩) (World.block_lt_of_cell? _ _ hS.2.2)).trans hS.2.2⟩
     have HNO := hideP hno
     have HB5 := hideP hb5
     clear hno hb5 hS
     refine hK.out _ _ hS2 (fun _ => ?_)
     try simp only [Act.put, List.getElem_toArray, List.getElem_cons_zero, List.getElem_cons_succ, List.setIfInBounds_toArray, List.set_cons_zero, List.set_cons_succ]
     clear hK K
     refine tkS (i := 5) (v := .agg (parC S (.slice na ee nc))) rfl hS2 ?_ (hr := fun wx hx => by refine build_op (S := S) (p := .tmp 56) (q := .tmp 60) ?_ ?_ ?_ wx <;> first | exact HCS.out.symm | rfl)
     try simp only [Act.put, List.getElem_toArray, List.getElem_cons_zero, List.getElem_cons_succ, List.setIfInBounds_toArray, List.set_cons_zero, List.set_cons_succ]
     have hS3 : (fun X : World => X.heap[w.heap.size + 1]? = some (.cells cs 35 (0, 0)) ∧ X.cell? ⟨w.heap.size, 0, none⟩ = some (.slice ao n cap) ∧ X.cell? ⟨C + 1, 0, none⟩ = some (.int .i64 (ee : Int))) (w5.alloc (.cells (parC S (.slice na ee nc)) 89)) := ⟨((below1 w5 _).block _ (Array.getElem?_eq_some_iff.1 hS2.1).1).trans hS2.1, ((below1 w5 _).cell (p := ⟨w.heap.size, 0, none⟩) (World.block_lt_of_cell? _ _ hS2.2.1)).trans hS2.2.1, ((below1 w5 _).cell (p := ⟨C + 1, 0, none⟩) (World.block_lt_of_cell? _ _ hS2.2.2)).trans hS2.2.2⟩
     refine rdS (i := 6) rfl (fun K hK => ?_)
     go_simp
     refine hK.out _ _ hS3 (fun _ => ?_)
     try simp only [Act.put, List.getElem_toArray, List.getElem_cons_zero, List.getElem_cons_succ, List.setIfInBounds_toArray, List.set_cons_zero, List.set_cons_succ]
     clear hK K
     refine tkS (i := 7) (v := .pointer (some ⟨w5.heap.size, 0, none⟩)) rfl hS3 ?_
     try simp only [Act.put, List.getElem_toArray, List.getElem_cons_zero, List.getElem_cons_succ, List.setIfInBounds_toArray, List.set_cons_zero, List.set_cons_succ]
     refine wpAnyH_done (by kernel_rfl) ?_ _
     have PW : Hid (ParW S w w5.heap.size D W.heap.size (xs.take ee ++ (ths S).take 0) (w5.alloc (.cells (parC S (.slice na ee nc)) 89))) := hideP (by
      have hzz : Z.drew.heap.size = Z.heap.size := rfl
      have hb0 : Below w.heap.size w w5 := below_more (Below.drew BZ.out) HB5.out (by rw [hzz]; exact BZ.out.size)
      refine ⟨na, ee, nc, by simp [List.length_take, HL.out]; omega, parB_new, ?_, ?_, ?_, hb0.alloc hb0.size _⟩
      ·rw [List.take_zero, List.append_nil]
       exact (ownG_mono HNO.out (by rw [hzz]; exact BZ.out.size)).alloc _
      ·have h1 : w5.heap[D]? = some (.deferred (some [])) := (HB5.out.block D (by rw [hzz]; exact (Array.getElem?_eq_some_iff.1 hKZ.out).1)).trans hKZ.out
       exact (Below.heap_alloc _ _ _ (Array.getElem?_eq_some_iff.1 h1).1).trans h1
      ·have h1 : w5.heap[W.heap.size]? = some (thsO S) := (HB5.out.block _ (by rw [hzz]; exact (Array.getElem?_eq_some_iff.1 HZL.out).1)).trans HZL.out
       exact (Below.heap_alloc _ _ _ (Array.getElem?_eq_some_iff.1 h1).1).trans h1)
     obtain ⟨PB, hPB⟩ : ∃ PB, PB = w5.heap.size := ⟨_, rfl⟩
     obtain ⟨TB, hTB⟩ : ∃ TB, TB = W.heap.size := ⟨_, rfl⟩
     rw [← hPB, ← hTB] at PW
     rw [← hPB, ← hTB]
     generalize World.alloc _ _ = V at PW ⊢
     have hPBw : w.heap.size ≤ PB := by rw [hPB]; have h1 := HB5.out.size; have h2 := BZ.out.size; have h3 : Z.drew.heap.size = Z.heap.size := rfl; omega
     clear hS2 hS3 HNO HB5 BZ hKZ HZL hZb hPB hTB hx1 hx4 HX1 HX2 HX5 HKD
     go_wp2_with fail
     go_loopw [65] (fun s65 wi => ∃ i : Nat, i ≤ 3 ∧ s65 = .int .i64 (i : Int) ∧ Hid (ParW S w PB D TB (xs.take ee ++ (ths S).take i) wi)) (fun s65 _ => 3 - (intOf s65).toNat)
     case atStart => exact ⟨0, by omega, rfl, PW⟩
     case round =>
      obtain ⟨i, hi3, rfl, PI⟩ := hrel
      clear PW
      by_cases hi : i < 3
      ·have hii : (i : Int) < 3 := by omega
       obtain ⟨qa, m, qc, hlm, hpb, hown, hdd, hth, hbl⟩ := PI.out
       obtain ⟨X, Kn, p, y, hcx, hmn, hen, hkn, hsn⟩ := ths_at hth hi
       have HKN := hideP hkn
       have HSN := hideP hsn
       have HLM := hideP hlm
       have HPB := hideP hpb
       have HOWN := hideP hown
       have HDD := hideP hdd
       have HTH := hideP hth
       have HBL2 := hideP hbl
       have hc23 := hpb.c23
       clear hkn hsn hlm hpb hown hdd hth hbl PI
       go_upto_region 18 with fail
       clear hcx
       have hS : wr.drew.cell? ⟨PB, 23, none⟩ = some (.slice qa m qc) := hc23
       have hPw : w.heap.size ≤ PB := hPBw
       have hc0 : wr.drew.cell? ⟨PB, 23, none⟩ = some (.slice qa m qc) := hc23
       have hm9 : m ≤ 20003 := by
        have h1 := HLM.out
        rw [List.length_append, List.length_take, HL.out] at h1
        have h2 : ((ths S).take i).length ≤ 3 := by simp [ths]; omega
        omega
       refine wp_onlyN ?_
       refine wp_region_held_drew (S := fun _ => True) (by kernel_rfl) trivial (fun hS => ?_)
       refine tkS (i := 0) (v := .pointer (some ⟨PB, 0, none⟩)) rfl trivial ?_
       try simp only [Act.put, List.getElem_toArray, List.getElem_cons_zero, List.getElem_cons_succ, List.setIfInBounds_toArray, List.set_cons_zero, List.set_cons_succ]
       refine tkS (i := 1) (v := .pointer (some ⟨PB, 0, none⟩)) rfl trivial ?_
       try simp only [Act.put, List.getElem_toArray, List.getElem_cons_zero, List.getElem_cons_succ, List.setIfInBounds_toArray, List.set_cons_zero, List.set_cons_succ]
       refine tkS (i := 2) (v := .pointer (some ⟨PB, 0, none⟩)) rfl trivial ?_
       try simp only [Act.put, List.getElem_toArray, List.getElem_cons_zero, List.getElem_cons_succ, List.setIfInBounds_toArray, List.set_cons_zero, List.set_cons_succ]
       refine tkS (i := 3) (v := .pointer (some ⟨PB, 23, none⟩)) rfl trivial ?_
       try simp only [Act.put, List.getElem_toArray, List.getElem_cons_zero, List.getElem_cons_succ, List.setIfInBounds_toArray, List.set_cons_zero, List.set_cons_succ]
       refine tkS (i := 5) (v := .iface X p) rfl trivial ?_
       try simp only [Act.put, List.getElem_toArray, List.getElem_cons_zero, List.getElem_cons_succ, List.setIfInBounds_toArray, List.set_cons_zero, List.set_cons_succ]
       refine wpAnyH_ready (rs := [4, 6]) (by kernel_rfl) (by simp) ?_
       refine AllReadyH.cons rfl (fun K hK => ?_) (AllReadyH.cons rfl (fun K hK => ?_) AllReadyH.nil)
       ·rw [if_pos (by first | rfl | go_simp)]
        go_simp
        refine hK.out _ _ trivial (fun _ => ?_)
        try simp only [Act.put, List.getElem_toArray, List.getElem_cons_zero, List.getElem_cons_succ, List.setIfInBounds_toArray, List.set_cons_zero, List.set_cons_succ]
        clear hK K
        refine rdS (i := 6) rfl (fun K hK => ?_)
        go_simp
        refine (HKN.out _).mono ?_
        rintro e' w6 ⟨rfl, hb6⟩
        refine hK.out _ _ trivial (fun _ => ?_)
        try simp only [Act.put, List.getElem_toArray, List.getElem_cons_zero, List.getElem_cons_succ, List.setIfInBounds_toArray, List.set_cons_zero, List.set_cons_succ]
        clear hK K
        have P6 := HPB.out.keep (hb6.block PB (show PB < wr.drew.heap.size from HPB.out.lt))
        have O6 := ownH_same HOWN.out (fun g hgo => hb6.block g (show g < wr.drew.heap.size from (ownH_kind HOWN.out hgo).2.1))
        have D6 := (hb6.block D (show D < wr.drew.heap.size from (Array.getElem?_eq_some_iff.1 HDD.out).1)).trans HDD.out
        have T6 := (hb6.block TB (show TB < wr.drew.heap.size from (Array.getElem?_eq_some_iff.1 HTH.out).1)).trans HTH.out
        have B6 : Below w.heap.size w w6 := below_more (Below.drew HBL2.out) hb6 (show w.heap.size ≤ wr.heap.size from HBL2.out.size)
        have HP6 := hideP P6
        have HO6 := hideP O6
        have HD6 := hideP D6
        have HT6 := hideP T6
        have HB6 := hideP B6
        have hz6 : w.heap.size ≤ w6.heap.size := B6.size
        clear hb6 P6 O6 D6 T6 B6
        refine rdS (i := 7) rfl (fun K hK => ?_)
        go_simp
        refine hK.out _ _ trivial (fun _ => ?_)
        try simp only [Act.put, List.getElem_toArray, List.getElem_cons_zero, List.getElem_cons_succ, List.setIfInBounds_toArray, List.set_cons_zero, List.set_cons_succ]
        clear hK K
        refine rdS (i := 8) rfl (fun K hK => ?_)
        refine wp_appNd _ _ rfl w.heap.size (.slice qa m qc) m (xs.take ee ++ (ths S).take i) rfl (HO6.out.alloc _) w6.heap.size y rfl (heap_alloc_new w6 _) (by omega) (by simp; omega) ?_
        intro v9 w9 ho9 hg9 hat9
        have PN := hideP (ParW.app (S := S) HLM.out HP6.out HO6.out HD6.out HT6.out HB6.out hPw hg9 ho9)
        have hq9 : ∃ cur, w9.heap[PB]? = some (.cells cur 89 (0, 0)) ∧ w9.cell? ⟨PB, 23, none⟩ = some (.slice qa m qc) := by
         obtain ⟨cur, hcur, _⟩ := HP6.out.blk
         have hl6 := HP6.out.lt
         have h1 : w9.heap[PB]? = w6.heap[PB]? := (hg9.block PB (by simp; omega) (fun e => by
          obtain ⟨_, _, c2, hc2⟩ := ownH_kind HO6.out e.symm
          rw [hcur] at hc2
          cases hc2)).trans (Below.heap_alloc _ _ _ hl6)
         exact ⟨cur, h1.trans hcur, (World.cell?_of_block (a := ⟨PB, 23, none⟩) h1).trans HP6.out.c23⟩
        obtain ⟨cur9, hcur9, hc9⟩ := hq9
        have hf9 : w9.frozen? ⟨PB, 23, none⟩ = false := frozen_of_row w9 PB 23 cur9 89 hcur9
        obtain ⟨a9, c9, hv9, _⟩ := own_shape ho9
        subst hv9
        clear ho9 hg9 hat9 hcur9
        refine hK.out _ _ trivial (fun _ => ?_)
        try simp only [Act.put, List.getElem_toArray, List.getElem_cons_zero, List.getElem_cons_succ, List.setIfInBounds_toArray, List.set_cons_zero, List.set_cons_succ]
        clear hK K
        refine tkS (i := 9) (v := .pointer (some ⟨PB, 0, none⟩)) rfl trivial ?_
        try simp only [Act.put, List.getElem_toArray, List.getElem_cons_zero, List.getElem_cons_succ, List.setIfInBounds_toArray, List.set_cons_zero, List.set_cons_succ]
        refine tkS (i := 10) (v := .pointer (some ⟨PB, 23, none⟩)) rfl trivial ?_
        try simp only [Act.put, List.getElem_toArray, List.getElem_cons_zero, List.getElem_cons_succ, List.setIfInBounds_toArray, List.set_cons_zero, List.set_cons_succ]
        refine rdS (i := 11) rfl (fun K hK => ?_)
        go_simp
        refine hK.out _ _ trivial (fun _ => ?_)
        try simp only [Act.put, List.getElem_toArray, List.getElem_cons_zero, List.getElem_cons_succ, List.setIfInBounds_toArray, List.set_cons_zero, List.set_cons_succ]
        clear hK K
        refine wpAnyH_done (by kernel_rfl) ?_ _
        show Exit.inBlock 3 _ Exit.normal _ _
        go_wp2
        go_roundw
        case rel => exact ⟨i + 1, by omega, by go_num, hideP (by rw [HSN.out, ← List.append_assoc]; exact PN.out)⟩
        case measure => simp [intOf]; omega
       ·rw [if_pos (by first | rfl | go_simp)]
        go_simp
        refine (HKN.out _).mono ?_
        rintro e' w6 ⟨rfl, hb6⟩
        have hc6 : w6.cell? ⟨PB, 23, none⟩ = some (.slice qa m qc) := (hb6.cell (p := ⟨PB, 23, none⟩) (World.block_lt_of_cell? _ _ hc0)).trans hc0
        refine hK.out _ _ trivial (fun _ => ?_)
        try simp only [Act.put, List.getElem_toArray, List.getElem_cons_zero, List.getElem_cons_succ, List.setIfInBounds_toArray, List.set_cons_zero, List.set_cons_succ]
        clear hK K
        have hl6 : PB < w6.heap.size := World.block_lt_of_cell? _ _ hc6
        have P6 := HPB.out.keep (hb6.block PB (show PB < wr.drew.heap.size from HPB.out.lt))
        have O6 := ownH_same HOWN.out (fun g hgo => hb6.block g (show g < wr.drew.heap.size from (ownH_kind HOWN.out hgo).2.1))
        have D6 := (hb6.block D (show D < wr.drew.heap.size from (Array.getElem?_eq_some_iff.1 HDD.out).1)).trans HDD.out
        have T6 := (hb6.block TB (show TB < wr.drew.heap.size from (Array.getElem?_eq_some_iff.1 HTH.out).1)).trans HTH.out
        have B6 : Below w.heap.size w w6 := below_more (Below.drew HBL2.out) hb6 (show w.heap.size ≤ wr.heap.size from HBL2.out.size)
        have HP6 := hideP P6
        have HO6 := hideP O6
        have HD6 := hideP D6
        have HT6 := hideP T6
        have HB6 := hideP B6
        have hz6 : w.heap.size ≤ w6.heap.size := B6.size
        clear hb6 P6 O6 D6 T6 B6
        refine wpAnyH_ready (rs := [4, 7]) (by kernel_rfl) (by simp) ?_
        refine AllReadyH.cons rfl (fun K hK => ?_) (AllReadyH.cons rfl (fun K hK => ?_) AllReadyH.nil)
        ·rw [if_pos (by first | rfl | go_simp)]
         go_simp
         refine hK.out _ _ trivial (fun _ => ?_)
         try simp only [Act.put, List.getElem_toArray, List.getElem_cons_zero, List.getElem_cons_succ, List.setIfInBounds_toArray, List.set_cons_zero, List.set_cons_succ]
         clear hK K
         refine rdS (i := 7) rfl (fun K hK => ?_)
         go_simp
         refine hK.out _ _ trivial (fun _ => ?_)
         try simp only [Act.put, List.getElem_toArray, List.getElem_cons_zero, List.getElem_cons_succ, List.setIfInBounds_toArray, List.set_cons_zero, List.set_cons_succ]
         clear hK K
         refine rdS (i := 8) rfl (fun K hK => ?_)
         refine wp_appNd _ _ rfl w.heap.size (.slice qa m qc) m (xs.take ee ++ (ths S).take i) rfl (HO6.out.alloc _) w6.heap.size y rfl (heap_alloc_new w6 _) (by omega) (by simp; omega) ?_
         intro v9 w9 ho9 hg9 hat9
         have PN := hideP (ParW.app (S := S) HLM.out HP6.out HO6.out HD6.out HT6.out HB6.out hPw hg9 ho9)
         have hq9 : ∃ cur, w9.heap[PB]? = some (.cells cur 89 (0, 0)) ∧ w9.cell? ⟨PB, 23, none⟩ = some (.slice qa m qc) := by
          obtain ⟨cur, hcur, _⟩ := HP6.out.blk
          have hl6 := HP6.out.lt
          have h1 : w9.heap[PB]? = w6.heap[PB]? := (hg9.block PB (by simp; omega) (fun e => by
           obtain ⟨_, _, c2, hc2⟩ := ownH_kind HO6.out e.symm
           rw [hcur] at hc2
           cases hc2)).trans (Below.heap_alloc _ _ _ hl6)
          exact ⟨cur, h1.trans hcur, (World.cell?_of_block (a := ⟨PB, 23, none⟩) h1).trans HP6.out.c23⟩
         obtain ⟨cur9, hcur9, hc9⟩ := hq9
         have hf9 : w9.frozen? ⟨PB, 23, none⟩ = false := frozen_of_row w9 PB 23 cur9 89 hcur9
         obtain ⟨a9, c9, hv9, _⟩ := own_shape ho9
         subst hv9
         clear ho9 hg9 hat9 hcur9
         refine hK.out _ _ trivial (fun _ => ?_)
         try simp only [Act.put, List.getElem_toArray, List.getElem_cons_zero, List.getElem_cons_succ, List.setIfInBounds_toArray, List.set_cons_zero, List.set_cons_succ]
         clear hK K
         refine tkS (i := 9) (v := .pointer (some ⟨PB, 0, none⟩)) rfl trivial ?_
         try simp only [Act.put, List.getElem_toArray, List.getElem_cons_zero, List.getElem_cons_succ, List.setIfInBounds_toArray, List.set_cons_zero, List.set_cons_succ]
         refine tkS (i := 10) (v := .pointer (some ⟨PB, 23, none⟩)) rfl trivial ?_
         try simp only [Act.put, List.getElem_toArray, List.getElem_cons_zero, List.getElem_cons_succ, List.setIfInBounds_toArray, List.set_cons_zero, List.set_cons_succ]
         refine rdS (i := 11) rfl (fun K hK => ?_)
         go_simp
         refine hK.out _ _ trivial (fun _ => ?_)
         try simp only [Act.put, List.getElem_toArray, List.getElem_cons_zero, List.getElem_cons_succ, List.setIfInBounds_toArray, List.set_cons_zero, List.set_cons_succ]
         clear hK K
         refine wpAnyH_done (by kernel_rfl) ?_ _
         show Exit.inBlock 3 _ Exit.normal _ _
         go_wp2
         go_roundw
         case rel => exact ⟨i + 1, by omega, by go_num, hideP (by rw [HSN.out, ← List.append_assoc]; exact PN.out)⟩
         case measure => simp [intOf]; omega
        ·rw [if_pos (by first | rfl | go_simp)]
         go_simp
         refine hK.out _ _ trivial (fun _ => ?_)
         try simp only [Act.put, List.getElem_toArray, List.getElem_cons_zero, List.getElem_cons_succ, List.setIfInBounds_toArray, List.set_cons_zero, List.set_cons_succ]
         clear hK K
         refine rdS (i := 4) rfl (fun K hK => ?_)
         go_simp
         refine hK.out _ _ trivial (fun _ => ?_)
         try simp only [Act.put, List.getElem_toArray, List.getElem_cons_zero, List.getElem_cons_succ, List.setIfInBounds_toArray, List.set_cons_zero, List.set_cons_succ]
         clear hK K
         refine rdS (i := 8) rfl (fun K hK => ?_)
         refine wp_appNd _ _ rfl w.heap.size (.slice qa m qc) m (xs.take ee ++ (ths S).take i) rfl (HO6.out.alloc _) w6.heap.size y rfl (heap_alloc_new w6 _) (by omega) (by simp; omega) ?_
         intro v9 w9 ho9 hg9 hat9
         have PN := hideP (ParW.app (S := S) HLM.out HP6.out HO6.out HD6.out HT6.out HB6.out hPw hg9 ho9)
         have hq9 : ∃ cur, w9.heap[PB]? = some (.cells cur 89 (0, 0)) ∧ w9.cell? ⟨PB, 23, none⟩ = some (.slice qa m qc) := by
          obtain ⟨cur, hcur, _⟩ := HP6.out.blk
          have hl6 := HP6.out.lt
          have h1 : w9.heap[PB]? = w6.heap[PB]? := (hg9.block PB (by simp; omega) (fun e => by
           obtain ⟨_, _, c2, hc2⟩ := ownH_kind HO6.out e.symm
           rw [hcur] at hc2
           cases hc2)).trans (Below.heap_alloc _ _ _ hl6)
          exact ⟨cur, h1.trans hcur, (World.cell?_of_block (a := ⟨PB, 23, none⟩) h1).trans HP6.out.c23⟩
         obtain ⟨cur9, hcur9, hc9⟩ := hq9
         have hf9 : w9.frozen? ⟨PB, 23, none⟩ = false := frozen_of_row w9 PB 23 cur9 89 hcur9
         obtain ⟨a9, c9, hv9, _⟩ := own_shape ho9
         subst hv9
         clear ho9 hg9 hat9 hcur9
         refine hK.out _ _ trivial (fun _ => ?_)
         try simp only [Act.put, List.getElem_toArray, List.getElem_cons_zero, List.getElem_cons_succ, List.setIfInBounds_toArray, List.set_cons_zero, List.set_cons_succ]
         clear hK K
         refine tkS (i := 9) (v := .pointer (some ⟨PB, 0, none⟩)) rfl trivial ?_
         try simp only [Act.put, List.getElem_toArray, List.getElem_cons_zero, List.getElem_cons_succ, List.setIfInBounds_toArray, List.set_cons_zero, List.set_cons_succ]
         refine tkS (i := 10) (v := .pointer (some ⟨PB, 23, none⟩)) rfl trivial ?_
         try simp only [Act.put, List.getElem_toArray, List.getElem_cons_zero, List.getElem_cons_succ, List.setIfInBounds_toArray, List.set_cons_zero, List.set_cons_succ]
         refine rdS (i := 11) rfl (fun K hK => ?_)
         go_simp
         refine hK.out _ _ trivial (fun _ => ?_)
         try simp only [Act.put, List.getElem_toArray, List.getElem_cons_zero, List.getElem_cons_succ, List.setIfInBounds_toArray, List.set_cons_zero, List.set_cons_succ]
         clear hK K
         refine wpAnyH_done (by kernel_rfl) ?_ _
         show Exit.inBlock 3 _ Exit.normal _ _
         go_wp2
         go_roundw
         case rel => exact ⟨i + 1, by omega, by go_num, hideP (by rw [HSN.out, ← List.append_assoc]; exact PN.out)⟩
         case measure => simp [intOf]; omega
      ·have hii : ¬ (i : Int) < 3 := by omega
       obtain rfl : i = 3 := by omega
       obtain ⟨qa, m, qc, hlm, hpb, hown, hdd, hth, hbl⟩ := PI.out
       rw [show (ths S).take 3 = [penN 10000, gapN S.f0 S.f1 S.f2 S.f3 S.f4, penN (-10000)] from rfl] at hlm hown
       obtain ⟨L, hL⟩ : ∃ L, L = xs.take ee ++ [penN 10000, gapN S.f0 S.f1 S.f2 S.f3 S.f4, penN (-10000)] := ⟨_, rfl⟩
       have hob : listB xs = true := HLB.out.symm
       have hK0 : K0 = trm (its xs) (its xs).length := by rw [HK0.out, HN.out]
       have hK0l : K0 ≤ (its xs).length := by rw [hK0]; exact trm_le _ _
       have hit : (its L).map Prod.fst = (rowI xs S).map Prod.fst := by rw [hL, HCUT.out]; exact row_fst hK0
       have hitl : (its L).length = K0 + 3 := by rw [hL, HCUT.out]; simp; omega
       have hOK3 : AllOk3 L := by rw [hL, HEE.out]; exact allOk3_cut hob hK0l ⟨rfl, by decide⟩ ⟨rfl, by show ByteArray.size ⟨#[]⟩ ≤ 1000; decide⟩ ⟨rfl, by decide⟩
       have hORD : ∀ i, i < L.length → Ord (L.getD i Nd.none) := by
        rw [hL]
        have hsO : Ord (gapN S.f0 S.f1 S.f2 S.f3 S.f4) := sy_ord HSB.out.symm
        exact ord_cut hob (by rw [HL.out]; exact heel) (by unfold Ord penN; simp) hsO (by unfold Ord penN; simp)
       rw [← hL] at hlm hown
       have HLM := hideP hlm
       have hK2 : K0 ≤ 2000 := by have := HN.out; omega
       have HOK3 := hideP hOK3
       have HLD : Hid (L = xs.take (endK xs 0 (trm (its xs) (its xs).length)) ++ [penN 10000, gapN S.f0 S.f1 S.f2 S.f3 S.f4, penN (-10000)]) := hideP (by rw [hL, HEE.out, hK0])
       have HFEW : Hid ((its L).length ≤ 2003) := hideP (by omega)
       have HOWN := hideP hown
       have HNP : Hid (∀ g, (Value.slice qa m qc).ownBlock = some g → g < wr.heap.size ∧ g ≠ PB) := hideP (fun g hg => by
        obtain ⟨_, h2, cur, h3⟩ := ownH_kind hown hg
        refine ⟨h2, fun e => ?_⟩
        subst e
        obtain ⟨⟨cs2, hc2, _⟩, _⟩ := hpb
        rw [h3] at hc2
        cases hc2)
       have AC := hideP (addItemsL_any hpb (SRow.mono ndStable (own_NRow hown hlm) (Nat.zero_le _)) (own_cap hown) hOK3 hORD ⟨by omega, by omega⟩)
       obtain ⟨NN', hNN'⟩ : ∃ q, q = (its L).length := ⟨_, rfl⟩
       have hbw := hbl
       have HDD := hideP hdd
       have HBL := hideP hbl
       have HIT := hideP hit
       have HNL := hideP hNN'
       have hN5 : NN' ≤ 5000 := by omega
       have hN0 : 0 < NN' := by omega
       rw [← hNN'] at AC
       have hPl := hpb.lt
       have hDP : D ≠ PB := fun e => by
        subst e
        obtain ⟨⟨cs2, hc2, _⟩, _⟩ := hpb
        rw [hdd] at hc2
        cases hc2
       clear hpb hown hdd hth hbl hit hitl hOK3 hORD PI hNN' hL hbw
       go_wp2_with fail
       refine AC.out.mono ?_
       rintro e w7 ⟨⟨rv, rfl⟩, ⟨B, ic, sv, hp7, ho7, hm7⟩, hf7⟩
       have hB7 := ownH_kind ho7 (show (Value.slice (some ⟨B, 0, none⟩) NN' ic).ownBlock = some B from rfl)
       have hBP : B ≠ PB := by have := hB7.1; omega
       obtain ⟨g7, hg7e, _, _, hir7⟩ := its_row ho7 HNL.out.symm hN0
       obtain rfl : B = g7 := by simpa using hg7e
       have TC := hideP (addTurns_any hp7.par hir7 HNL.out.symm hB7.2.1 hN5 hBP)
       have BL7 := hideP (fr_below HBL.out hPBw hf7)
       have N7 := hideP (ownH_same HOWN.out (fun g hg => hf7.2.2.2.2 g (HNP.out g hg).1 (HNP.out g hg).2))
       have I7 := hideP (ownG_mono ho7 HBL.out.size)
       have M7 := hideP (ownG_mono hm7 HBL.out.size)
       have HSQ : Hid (∀ g, sv.ownBlock = some g → g < w7.heap.size ∧ g ≠ PB) := hideP (fun g hg => by
        have h1 := ownH_kind hm7 hg
        exact ⟨h1.2.1, fun e => by have := h1.1; omega⟩)
       have HBB : Hid (B < w7.heap.size ∧ B ≠ PB) := hideP ⟨hB7.2.1, hBP⟩
       have HNQ : Hid (∀ g, (Value.slice qa m qc).ownBlock = some g → g < w7.heap.size ∧ g ≠ PB) := hideP (fun g hg => ⟨(ownH_kind N7.out hg).2.1, (HNP.out g hg).2⟩)
       have DD7 := hideP ((hf7.2.2.2.2 D (Array.getElem?_eq_some_iff.1 HDD.out).1 hDP).trans HDD.out)
       clear hp7 ho7 hm7 hf7 hB7 AC
       go_wp2_with fail
       refine TC.out.mono ?_
       rintro e w8 ⟨⟨rv2, rfl⟩, ⟨ts, g8, m8, c8, htl, htf, hp8, ho8, hts8⟩, hf8⟩
       have BL8 := hideP (fr_below BL7.out hPBw hf8)
       have DD8 := hideP ((hf8.2.2.2.2 D (Array.getElem?_eq_some_iff.1 DD7.out).1 hDP).trans DD7.out)
       have hc26 := hp8.c26
       have HO8 := hideP (ownG_mono ho8 BL7.out.size)
       have HTF : Hid (ts.map (fun t => t.1) = -1 :: bl0 xs S) := hideP (by rw [htf, back_bl HIT.out HNL.out])
       have hm8 : m8 = (bl0 xs S).length + 1 := by
        have := congrArg List.length HTF.out
        simp at this
        omega
       have HTL := hideP htl
       have HTS := hideP hts8
       have HPA := hideP hp8
       have N8 := hideP (ownH_same N7.out (fun g hg => hf8.2.2.2.2 g (HNQ.out g hg).1 (HNQ.out g hg).2))
       have I8 : Hid (w8.ownsRow w.heap.size 186 3 (.slice (some ⟨B, 0, none⟩) NN' ic) NN' (flatI (its L))) := hideP (ownH_same I7.out (fun g hg => by
        have e : B = g := by simpa [Value.ownBlock] using hg
        rw [← e]
        exact hf8.2.2.2.2 B HBB.out.1 HBB.out.2))
       have M8 : Hid (w8.ownsRow w.heap.size 116 9 sv NN' (flatM (its L) NN')) := hideP (ownH_same M7.out (fun g hg => hf8.2.2.2.2 g (HSQ.out g hg).1 (HSQ.out g hg).2))
       have hb20 : (bl0 xs S).length ≤ 5000 := by
        unfold bl0
        rw [List.length_map]
        have h1 := List.length_filter_le (trnB (rowI xs S)) (List.range (rowI xs S).length)
        rw [List.length_range] at h1
        have h2 : (rowI xs S).length = (its L).length := by have := congrArg List.length HIT.out; simpa using this.symm
        have h3 := HNL.out
        exact Nat.le_trans h1 (by omega)
       have HM8 := hideP hm8
       have hm85 : 1 ≤ m8 ∧ m8 ≤ 5001 := by omega
       have hP8 := hp8.lt
       have w81 : IntKind.i64.wrap ((m8 : Int) - 1) = (m8 : Int) - 1 := by rw [IntKind.wrap_i64]; omega
       clear htl htf hp8 ho8 hf8 TC hm8 hb20 hts8
       go_upto_region 22 with fail
       have hS : w8.drew.cell? ⟨PB, 26, none⟩ = some (.slice (some ⟨g8, 0, none⟩) m8 c8) := hc26
       refine wp_noPanic ?_
       refine wp_region_held_drew (S := fun Y => Y.cell? ⟨PB, 26, none⟩ = some (.slice (some ⟨g8, 0, none⟩) m8 c8)) (by kernel_rfl) hS (fun hS => ?_)
       refine tkS (i := 0) (v := .pointer (some ⟨PB, 0, none⟩)) rfl hS ?_
       try simp only [Act.put, List.getElem_toArray, List.getElem_cons_zero, List.getElem_cons_succ, List.setIfInBounds_toArray, List.set_cons_zero, List.set_cons_succ]
       refine tkS (i := 1) (v := .pointer (some ⟨PB, 0, none⟩)) rfl hS ?_
       try simp only [Act.put, List.getElem_toArray, List.getElem_cons_zero, List.getElem_cons_succ, List.setIfInBounds_toArray, List.set_cons_zero, List.set_cons_succ]
       refine tkS (i := 2) (v := .pointer (some ⟨PB, 0, none⟩)) rfl hS ?_
       try simp only [Act.put, List.getElem_toArray, List.getElem_cons_zero, List.getElem_cons_succ, List.setIfInBounds_toArray, List.set_cons_zero, List.set_cons_succ]
       refine tkS (i := 3) (v := .pointer (some ⟨PB, 26, none⟩)) rfl hS ?_
       try simp only [Act.put, List.getElem_toArray, List.getElem_cons_zero, List.getElem_cons_succ, List.setIfInBounds_toArray, List.set_cons_zero, List.set_cons_succ]
       refine tkS (i := 4) (v := .slice (some ⟨g8, 0, none⟩) m8 c8) rfl hS ?_
       try simp only [Act.put, List.getElem_toArray, List.getElem_cons_zero, List.getElem_cons_succ, List.setIfInBounds_toArray, List.set_cons_zero, List.set_cons_succ]
       refine tkS (i := 5) (v := .int .i64 (m8 : Int)) rfl hS ?_
       try simp only [Act.put, List.getElem_toArray, List.getElem_cons_zero, List.getElem_cons_succ, List.setIfInBounds_toArray, List.set_cons_zero, List.set_cons_succ]
       refine tkS (i := 6) (v := .int .i64 ((m8 : Int) - 1)) rfl hS ?_
       try simp only [Act.put, List.getElem_toArray, List.getElem_cons_zero, List.getElem_cons_succ, List.setIfInBounds_toArray, List.set_cons_zero, List.set_cons_succ]
       refine tkS (i := 7) (v := .bool (decide ((m8 : Int) - 1 ≤ 300))) rfl hS ?_
       try simp only [Act.put, List.getElem_toArray, List.getElem_cons_zero, List.getElem_cons_succ, List.setIfInBounds_toArray, List.set_cons_zero, List.set_cons_succ]
       refine tkS (i := 8) (v := .pointer (some ⟨PB, 0, none⟩)) rfl hS ?_
       try simp only [Act.put, List.getElem_toArray, List.getElem_cons_zero, List.getElem_cons_succ, List.setIfInBounds_toArray, List.set_cons_zero, List.set_cons_succ]
       refine tkS (i := 9) (v := .bool (decide ((m8 : Int) - 1 ≤ 300))) rfl hS ?_
       try simp only [Act.put, List.getElem_toArray, List.getElem_cons_zero, List.getElem_cons_succ, List.setIfInBounds_toArray, List.set_cons_zero, List.set_cons_succ]
       refine wpAnyH_done (by kernel_rfl) ?_ _
       have hDw : w.heap.size ≤ D := by omega
       have DDX : w8.drew.heap[D]? = some (.deferred (some [])) := DD8.out
       have BLX : Below w.heap.size w w8.drew := Below.drew BL8.out
       have OWX : w8.drew.ownsRow w.heap.size 85 4 (.slice (some ⟨g8, 0, none⟩) m8 c8) m8 (flatT ts) := HO8.out
       have key : ∀ b, b ≠ D → b < w8.heap.size → (w8.drew.putObj D (.deferred none)).heap[b]? = w8.heap[b]? := fun b hb hl => (grownBy_putObj' w8.drew D (.deferred none)).block b hl (fun e => hb (Option.some.inj e))
       have NEX : w8.drew.ownsRow w.heap.size 61 15 (.slice qa m qc) m (flatN L) := N8.out
       have IEX : w8.drew.ownsRow w.heap.size 186 3 (.slice (some ⟨B, 0, none⟩) NN' ic) NN' (flatI (its L)) := I8.out
       have MEX : w8.drew.ownsRow w.heap.size 116 9 sv NN' (flatM (its L) NN') := M8.out
       have PX := HPA.out.keep (key PB (fun e => hDP e.symm) HPA.out.lt)
       have KX : KeepH w8 (w8.drew.putObj D (.deferred none)) := fun b cs e => (key b (fun e2 => by
        subst e2
        rw [show w8.heap[b]? = some (.deferred (some [])) from DD8.out] at e
        cases e) (Array.getElem?_eq_some_iff.1 e).1).trans e
       have HFIN : Hid (ParR xs S w (.returned (.tuple #[.pointer (some ⟨PB, 0, none⟩), .bool (decide ((m8 : Int) - 1 ≤ 300))])) (w8.drew.putObj D (.deferred none))) := hideP (by
        refine ⟨⟨_, _, rfl, fun h => ?_, fun h => ⟨PB, L, ts, .slice qa m qc, B, ic, sv, g8, m8, c8, rfl, hPBw, ⟨⟨hob, HSB.out.symm⟩, HLD.out, HIT.out, HOK3.out, HFEW.out, ?_, ?_, ?_, HTL.out, ?_, ownsRow_putObj OWX (.deferred none) DDX rfl, fun t ht => (HTS.out t ht).keep KX, ?_, ?_⟩⟩⟩, BLX.trans (belowK_b (w := w) (Nat.le_refl _) w8.drew D _ _ hDw DDX rfl rfl)⟩
        ·unfold blL
         rw [if_neg]
         rintro ⟨_, _, _, g4⟩
         have h1 := HM8.out
         have h2 := of_decide_eq_false h
         omega
        ·rw [← HNL.out]
         exact ⟨PX.blk, PX.c5, PX.c23, PX.c24, PX.c25, PX.c26, PX.sty⟩
        ·have h1 := ownsRow_putObj NEX (.deferred none) DDX rfl
         rw [HLM.out]
         exact h1
        ·have h1 := ownsRow_putObj IEX (.deferred none) DDX rfl
         rw [← HNL.out]
         exact h1
        ·have h1 := HM8.out
         have h2 := of_decide_eq_true h
         rw [HTF.out]
         unfold blL
         rw [if_pos ⟨HSB.out.symm, hob, by have := HN.out; omega, by omega⟩]
        ·have h1 := ownsRow_putObj MEX (.deferred none) DDX rfl
         rw [← HNL.out]
         exact h1
        ·have h1 := HM8.out
         have h2 := of_decide_eq_true h
         exact ⟨HSB.out.symm, hob, by have := HN.out; omega, by omega⟩)
       clear key NEX IEX MEX PX KX DDX BLX OWX
       go_wp2
       refine ⟨by simp, .inl ⟨_, _, rfl, run_takeDeferred (show w8.drew.heap[D]? = some (.deferred (some [])) from DD8.out), ?_⟩⟩
       exact ⟨.tuple #[.pointer (some ⟨PB, 0, none⟩), .bool (decide ((m8 : Int) - 1 ≤ 300))], (by simp [results, Tryz.results30, go_sem]), HFIN.out⟩
end Go.Proofs.YtlohbaoigfaneaaGreat
namespace Go.Proofs.YtlohbaoigfaneaaGreat
open Go.RowKit
set_option linter.unusedVariables false
set_option linter.unusedSimpArgs false
def chrN (x : Nd) : Nd := ⟨1, x.wd, x.ht, x.dp, x.sh, x.fo, x.ch, x.nn, x.gs, x.gp, x.gpo, x.gm, x.gmo, x.tx, x.kids⟩
def partL (ys : List It) (rows : List (List Nd)) (s m : Nat) : List Nd := (List.range' s m).flatMap (fun k => if (ys.getD k It.none).1.k = 8 then [] else rows.getD k [])
def tailL (ys : List It) (b : Nat) : List Nd := if (ys.getD b It.none).1.k = 8 then [chrN (ys.getD b It.none).1] else []
def lineZ (S : Sy) (ys : List It) (rows : List (List Nd)) (a b : Nat) : List Nd :=
 (gapN S.l0 S.l1 S.l2 S.l3 S.l4 :: partL ys rows (begI ys a b) (b - begI ys a b)) ++ tailL ys b ++ [gapN S.r0 S.r1 S.r2 S.r3 S.r4]
theorem partL_zero (ys : List It) (rows : List (List Nd)) (s : Nat) : partL ys rows s 0 = [] := rfl
theorem partL_succ (ys : List It) (rows : List (List Nd)) (s m : Nat) : partL ys rows s (m + 1) = partL ys rows s m ++ (if (ys.getD (s + m) It.none).1.k = 8 then [] else rows.getD (s + m) []) := by
 unfold partL
 rw [List.range'_concat, List.flatMap_append]
 simp
theorem partL_sum (ys : List It) (rows : List (List Nd)) (s : Nat) : ∀ m, (partL ys rows s m).length + (rows.drop (s + m)).flatten.length ≤ (rows.drop s).flatten.length
 | 0 => by rw [partL_zero]; simp
 | m + 1 => by
  have ih := partL_sum ys rows s m
  rw [partL_succ, List.length_append]
  have h2 : (rows.drop (s + m)).flatten.length = (rows.getD (s + m) []).length + (rows.drop (s + (m + 1))).flatten.length := by
   by_cases h : s + m < rows.length
   ·rw [List.drop_eq_getElem_cons h, List.flatten_cons, List.length_append, show rows.getD (s + m) [] = rows[s + m] by simp [List.getD, List.getElem?_eq_getElem h]]
    rfl
   ·rw [List.drop_of_length_le (by omega), List.drop_of_length_le (by omega), show rows.getD (s + m) [] = [] by simp [List.getD, List.getElem?_eq_none (show rows.length ≤ s + m by omega)]]
    rfl
  split
  ·rw [List.length_nil]
   omega
  ·omega
theorem drop_flat (rows : List (List Nd)) (s : Nat) : (rows.drop s).flatten.length ≤ rows.flatten.length := by
 have h := congrArg (fun l : List (List Nd) => l.flatten.length) (List.take_append_drop s rows)
 simp only [List.flatten_append, List.length_append] at h
 omega
theorem row_flat {xs : List Nd} {S : Sy} (h : listB xs = true) : (rowL xs S).flatten.length ≤ 20003 := by
 have h1 := drop_flat ((itemsOf xs)) 0
 have h2 := congrArg List.length (items_flat h)
 have h3 : ((itemsOf xs).take (trm (its xs) (its xs).length)).flatten.length ≤ (itemsOf xs).flatten.length := by
  have h := congrArg (fun l : List (List Nd) => l.flatten.length) (List.take_append_drop (trm (its xs) (its xs).length) (itemsOf xs))
  simp only [List.flatten_append, List.length_append] at h
  omega
 have h4 := (allOk h).len
 unfold rowL
 rw [List.flatten_append, List.length_append]
 simp only [List.flatten_cons, List.flatten_nil, List.length_append, List.length_cons, List.length_nil]
 omega
theorem part_len {xs : List Nd} {S : Sy} (ys : List It) (h : listB xs = true) (s m : Nat) : (partL ys (rowL xs S) s m).length ≤ 20003 := by
 have h1 := partL_sum ys (rowL xs S) s m
 have h2 := drop_flat (rowL xs S) s
 have h3 := row_flat (S := S) h
 omega
theorem lineZ_len {xs : List Nd} {S : Sy} (ys : List It) (h : listB xs = true) (a b : Nat) : (lineZ S ys (rowL xs S) a b).length ≤ 20006 := by
 have h1 := part_len (S := S) ys h (begI ys a b) (b - begI ys a b)
 have h2 : (tailL ys b).length ≤ 1 := by
  unfold tailL
  split <;> simp
 unfold lineZ
 simp
 omega
theorem row_seg {xs : List Nd} {S : Sy} (h : listB xs = true) (k : Nat) : ((rowL xs S).getD k []).length ≤ 20003 := by
 have h3 := row_flat (S := S) h
 by_cases hk : k < (rowL xs S).length
 ·have h1 := drop_flat (rowL xs S) k
  rw [List.drop_eq_getElem_cons hk, List.flatten_cons, List.length_append] at h1
  rw [show (rowL xs S).getD k [] = (rowL xs S)[k] by simp [List.getD, List.getElem?_eq_getElem hk]]
  omega
 ·rw [show (rowL xs S).getD k [] = [] by simp [List.getD, List.getElem?_eq_none (show (rowL xs S).length ≤ k by omega)]]
  simp
theorem begF_fst {ys zs : List It} (h : ∀ i, (ys.getD i It.none).1 = (zs.getD i It.none).1) : ∀ f a, begF ys f a = begF zs f a
 | 0, a => rfl
 | f + 1, a => by rw [begF, begF, h a, begF_fst h f (a + 1)]
theorem fst_get {ys zs : List It} (h : ys.map Prod.fst = zs.map Prod.fst) (i : Nat) : (ys.getD i It.none).1 = (zs.getD i It.none).1 := by
 have h1 := congrArg (fun l => l.getD i Nd.none) h
 simp only [List.getD_eq_getElem?_getD, List.getElem?_map] at h1 ⊢
 cases h2 : ys[i]? <;> cases h3 : zs[i]? <;> simp_all
theorem nxt_beg (ys : List It) (b : Nat) (hb : b ≤ ys.length) : ∀ (n a : Nat), a ≤ b → n = b - a → min (nxt ys a) b = begI ys a b
 | 0, a, hab, hn => by
  obtain rfl : a = b := by omega
  rw [begI_end]
  unfold nxt
  omega
 | n + 1, a, hab, hn => by
  rw [nxt_step ys (by omega), begI_step ys a b (by omega)]
  split
  ·exact nxt_beg ys b hb n (a + 1) (by omega) (by omega)
  ·omega
theorem good_hyph {x : Nd} (h : goodB x = true) (h8 : x.k = 8) : chrN x = ⟨1, x.wd, x.ht, x.dp, 0, x.fo, x.ch, 0, 0, 0, 0, 0, 0, ⟨#[]⟩, 0⟩ := by
 unfold goodB specB at h
 simp only [Bool.and_eq_true] at h
 have h2 := (eqNd_iff _ _).1 h.1.1.1.1.1.2
 have h3 : x = ⟨x.k, x.wd, x.ht, x.dp, 0, x.fo, x.ch, 0, 0, 0, 0, 0, 0, ⟨#[]⟩, 0⟩ := by
  rw [Nd.used, if_pos (.inr h8)] at h2
  exact h2
 unfold chrN
 rw [Nd.mk.injEq]
 obtain ⟨k, wd, ht, dp, sh, fo, ch, nn, gs, gp, gpo, gm, gmo, tx, kids⟩ := x
 simp only [Nd.mk.injEq] at h3
 simp_all
theorem flatN_app (a b : List Nd) : flatN (a ++ b) = flatN a ++ flatN b := by
 induction a with
 | nil => rfl
 | cons x a ih => rw [List.cons_append, flatN, flatN, ih, List.append_assoc]
theorem wpList_appS {w : World} {ops : Array Oper} {rest : List Oper} {o : Oper} {a : Act} {Q : Exit → Act → World → Prop} (hgd : o.guard = none) (s x : Operand)
 (ho : o.op = .call { callee := .builtin .append, args := #[s, x], argTypes := #[31, 31] })
 (base : Nat) (v : Value) (n : Nat) (xs : List Nd) (hs : a.eval s = v) (hown : w.ownsRow base 61 15 v n (flatN xs))
 (ad : Addr) (c m : Nat) (seg : List Nd) (hm : seg.length = m) (hx : a.eval x = .slice (some ad) m c) (hnews : ∀ j u, (flatN seg)[j]? = some u → w.cell? (ad.add j) = some u)
 (hn : n + m ≤ 100000000) (hbase : base ≤ w.heap.size)
 (h : ∀ v' w', w'.ownsRow base 61 15 v' (n + m) (flatN (xs ++ seg)) → w.grownBy w' v.ownBlock → (v'.ownBlock = v.ownBlock ∨ v'.ownBlock = some w.heap.size) → wpList Tryz.prog ops Q rest (a.put o.dst v') w') : wpList Tryz.prog ops Q (o :: rest) a w := by
 obtain ⟨i0, hi, hz0, hz1, hz2⟩ := info_parts Tryz.info57c
 refine wpList_append_at hgd s x 31 ho base 61 i0 _ 15 128 Tryz.underlying31 hi hz0 hz1 hz2 rfl (by decide) v n (flatN xs) hs hown ad m c (flatN seg) hx (by rw [flatN_len, hm]) hnews (flatN_one _) (by unfold maxLen; omega) (by omega) hbase (fun v' w' h2 h3 h4 => h v' w' ?_ h3 h4)
 rw [flatN_app]
 exact h2
theorem wpList_app1 {w : World} {ops : Array Oper} {rest : List Oper} {o : Oper} {a : Act} {Q : Exit → Act → World → Prop} (hgd : o.guard = none) (s x : Operand)
 (ho : o.op = .call { callee := .builtin .append, args := #[s, x], argTypes := #[31, 31] })
 (base : Nat) (v : Value) (n : Nat) (xs : List Nd) (hs : a.eval s = v) (hown : w.ownsRow base 61 15 v n (flatN xs))
 (b : Nat) (y : Nd) (hx : a.eval x = .slice (some ⟨b, 0, none⟩) 1 1) (hb : w.heap[b]? = some (.cells y.cells.toArray 61 (0, 0)))
 (hn : n ≤ 99999999) (hbase : base ≤ w.heap.size)
 (h : ∀ v' w', w'.ownsRow base 61 15 v' (n + 1) (flatN (xs ++ [y])) → w.grownBy w' v.ownBlock → (v'.ownBlock = v.ownBlock ∨ v'.ownBlock = some w.heap.size) → wpList Tryz.prog ops Q rest (a.put o.dst v') w') : wpList Tryz.prog ops Q (o :: rest) a w := by
 refine wpList_appS hgd s x ho base v n xs hs hown ⟨b, 0, none⟩ 1 1 [y] rfl hx (fun j u hj => ?_) (by omega) hbase h
 have h9 : w.cell? ⟨b, j, none⟩ = some u := by
  rw [cell_of_row w b j _ 61 _ hb, ← hj]
  simp [flatN]
 unfold Addr.add
 split
 ·rename_i e2
  have e3 : j = 0 := by simpa using e2
  subst e3
  exact h9
 ·simpa using h9
theorem own_relen {w : World} {base n : Nat} {v : Value} {L : List Nd} (h : w.ownsRow base 61 15 v n (flatN L)) : w.ownsRow base 61 15 v L.length (flatN L) := by
 have h2 := h.1
 rw [flatN_len] at h2
 obtain rfl : n = L.length := by omega
 exact h
theorem row_add {w : World} {lo g n c : Nat} {seg : List Nd} (h : w.ownsRow lo 61 15 (.slice (some ⟨g, 0, none⟩) n c) n (flatN seg)) : ∀ j u, (flatN seg)[j]? = some u → w.cell? ((⟨g, 0, none⟩ : Addr).add j) = some u := fun j u hj => by
 have h9 : w.cell? ⟨g, j, none⟩ = some u := by
  have hl : j < n * 15 := by rw [← h.1]; exact (List.getElem?_eq_some_iff.1 hj).1
  exact (World.ownsRow.cellAt h j hl).trans hj
 unfold Addr.add
 split
 ·rename_i e2
  have e3 : j = 0 := by simpa using e2
  subst e3
  exact h9
 ·simpa using h9
theorem rws_at {w : World} {lo N : Nat} {v : Value} {rows : List (List Nd)} {ys : List It} (h : Rws lo w v rows) (hr : rows.length = N) {i : Nat} (hi : i < N) (hh : ∃ rest, rows.getD i [] = (ys.getD i It.none).1 :: rest) :
 ∃ (cap b off g c m : Nat) (tl : List Nd), v = .slice (some ⟨b, off, none⟩) N cap ∧ lo ≤ b ∧ b < w.heap.size ∧ w.cell? ⟨b, off + i, none⟩ = some (.slice (some ⟨g, 0, none⟩) m c) ∧ lo ≤ g ∧ g < w.heap.size ∧ 0 < m ∧ (rows.getD i []).length = m ∧ w.ownsRow lo 61 15 (.slice (some ⟨g, 0, none⟩) m c) m (flatN (rows.getD i [])) ∧ rows.getD i [] = (ys.getD i It.none).1 :: tl ∧ (∀ j, j < 15 → w.cell? ⟨g, j, none⟩ = (ys.getD i It.none).1.cells[j]?) := by
 obtain ⟨rest, hrest⟩ := hh
 obtain ⟨ao, cap, rfl, hc⟩ := h.is
 obtain ⟨b, off, rfl, hlo, hbl, hcell⟩ := hc (by omega)
 obtain ⟨u, hu, ho⟩ := hcell i (by omega)
 have hm : 0 < (rows.getD i []).length := by rw [hrest]; simp
 obtain ⟨g, c, rfl⟩ : ∃ g c, u = .slice (some ⟨g, 0, none⟩) (rows.getD i []).length c := by
  rcases ho.2 with ⟨_, h0⟩ | ⟨g, cap, cur, e, _⟩
  ·omega
  ·exact ⟨g, cap, e⟩
 have hk := World.ownsRow.lt ho g rfl
 refine ⟨cap, b, off, g, c, _, rest, by rw [hr], hlo, hbl, hu, hk.1, hk.2, hm, rfl, ho, hrest, fun j hj => ?_⟩
 rw [World.ownsRow.cellAt ho j (by omega), hrest, flatN, List.getElem?_append_left (by rw [cells_len]; exact hj)]
end Go.Proofs.YtlohbaoigfaneaaGreat
