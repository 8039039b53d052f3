/-
  The program's next.
-/
import Derived.Test.YtkiiiahljlkjnaaStt
namespace Go.Proofs.Ytkiiiahljlkjnaa
open Go.RowKit Go.Shelf
set_option linter.unusedVariables false
set_option linter.unusedSimpArgs false
attribute [local go_sem] Oper.semAt_some

/-- Between two rounds, in a round, where a round has left. -/
def XA (zs : List Int) (s : ByteArray) (g t lo : Nat) (w : World) (rs : List Nat) (x : Sc) (Bs pS : Nat) : Nat → World → Prop :=
  fun p W => p ≤ s.size ∧ pS ≤ p ∧ Boxed W Bs 52 (.pointer (some ⟨g, 0, none⟩)) ∧ ∃ st, nxt zs s p st = x ∧ St zs s g t lo w rs W (p : Int) st 0 0 0 ByteArray.empty
def XY (zs : List Int) (s : ByteArray) (g t lo : Nat) (w : World) (rs : List Nat) (x : Sc) (Bs pS : Nat) : Nat → World → Prop :=
  fun p W => pS ≤ p ∧ Boxed W Bs 52 (.pointer (some ⟨g, 0, none⟩)) ∧ ∃ st, nxt zs s p st = x ∧ St zs s g t lo w rs W ((p + 1 : Nat) : Int) st 0 0 0 ByteArray.empty
def XX (zs : List Int) (s : ByteArray) (g t lo : Nat) (w : World) (rs : List Nat) (x : Sc) (pS : Nat) : Code → World → Prop :=
  fun c W => (c = .ret ∧ St zs s g t lo w rs W x.a x.s x.k x.c x.h x.n) ∨ (c = .goto 0 ∧ ∃ (p : Nat) (st : Int), pS < p ∧ p ≤ s.size ∧ nxt zs s p st = x ∧ St zs s g t lo w rs W (p : Int) st 0 0 0 ByteArray.empty)
/-- At the label. -/
def XJ (zs : List Int) (s : ByteArray) (g t lo : Nat) (w : World) (x : Sc) : Act → World → Prop :=
  fun a W => ∃ (rs : List Nat) (v7 v8 : Value) (p : Nat) (st : Int), a = { tmps := #[.pointer (some ⟨g, 0, none⟩), .pointer (some ⟨w.heap.size, 0, none⟩), .pointer (some ⟨w.heap.size + 1, 0, none⟩), .pointer (some ⟨w.heap.size + 2, 0, none⟩), undef, undef, undef, v7, v8, undef, undef, undef, undef, undef, undef, undef, undef, undef, undef, undef, undef, undef, undef, undef, undef, undef, undef, undef, undef, undef, undef, undef, undef, undef, undef, undef, undef, undef, undef, undef, undef, undef, undef, undef, undef, undef, undef, undef, undef, undef, undef, undef, undef, undef, undef, undef, undef, undef, undef, undef, undef, undef, undef], defers := marksOf rs } ∧ p ≤ s.size ∧ nxt zs s p st = x ∧ St zs s g t lo w rs W (p : Int) st 0 0 0 ByteArray.empty
/-- What next tells. -/
def tkV (x : Sc) : Value := .tuple #[.int .i64 x.k, .agg #[.int .i64 x.c, .int .i64 x.h, .string x.n]]

theorem next_results {g t lo : Nat} {zs : List Int} {s : ByteArray} {w W : World} {k c h : Int} {nm : ByteArray} 
    (h1 : W.heap[w.heap.size + 1]? = some (.cells #[.int .i64 k] 2 (0, 0))) (h2 : W.heap[w.heap.size + 2]? = some (.cells #[.int .i64 c, .int .i64 h, .string nm] 34 (0, 0))) (tmps : Array Value) (ht2 : tmps[2]? = some (.pointer (some ⟨w.heap.size + 1, 0, none⟩))) (ht3 : tmps[3]? = some (.pointer (some ⟨w.heap.size + 2, 0, none⟩))) :
    (results Try.f29 tmps).run Try.prog W = .ok (.tuple #[.int .i64 k, .agg #[.int .i64 c, .int .i64 h, .string nm]]) W := by
  have a0 : W.cell? ⟨w.heap.size + 1, 0, none⟩ = some (.int .i64 k) := by simp [World.cell?, h1]
  have b0 : W.cell? ⟨w.heap.size + 2, 0, none⟩ = some (.int .i64 c) := by simp [World.cell?, h2]
  have b1 : W.cell? ⟨w.heap.size + 2, 1, none⟩ = some (.int .i64 h) := by simp [World.cell?, h2]
  have b2 : W.cell? ⟨w.heap.size + 2, 2, none⟩ = some (.string nm) := by simp [World.cell?, h2]
  simp [results, Try.results29, go_sem, ht2, ht3, a0, b0, b1, b2]

theorem keeps_of_gr {g B : Nat} {W W' : World} (h : Gr g W.heap.size W W') (hg : g < B) : KeepsFrom B W W' := ⟨h.size, fun k o hB ho _ => (h.block k (Array.getElem?_eq_some_iff.1 ho).1 (by omega)).trans ho⟩
theorem keeps_set {B : Nat} {A W : World} (h : KeepsFrom B A W) (a : Addr) (v : Value) : KeepsFrom B A (W.setCell a v) := h.trans ((KeepsOthers.setCell _ _ _).from _)
theorem nmS_eq (zs : List Int) (s : ByteArray) (a : Nat) : nmS zs s a = ⟨1, 0, 0, (nmS zs s a).n, (nmS zs s a).a, (nmS zs s a).s⟩ := by
  unfold nmS
  split
  · rfl
  · split <;> rfl
theorem next_leaves {g t lo n : Nat} {zs : List Int} {s : ByteArray} {w W : World} {rs : List Nat} {x : Sc} (h : St zs s g t lo w rs W x.a x.s x.k x.c x.h x.n) (tmps : Array Value) (ht2 : tmps[2]? = some (.pointer (some ⟨w.heap.size + 1, 0, none⟩))) (ht3 : tmps[3]? = some (.pointer (some ⟨w.heap.size + 2, 0, none⟩))) :
    LeavesInM Fence.wide n Try.prog Try.f29 tmps (fun e W' => e = .returned (tkV x) ∧ Rdr W' g t lo zs s x.a x.s ∧ Gr g w.heap.size w W') (marksOf rs) .returning W :=
  leaves_marks rs W h.mks (fun w' hc => by
    obtain ⟨h1, h2, h3, h4⟩ := h.leave hc
    exact ⟨_, next_results (g := g) (t := t) (lo := lo) (zs := zs) (s := s) h2 h3 tmps ht2 ht3, rfl, h1, h4⟩)

set_option maxRecDepth 100000 in
set_option maxHeartbeats 4000000 in
theorem next_in {g t lo p0 : Nat} {zs : List Int} {s : ByteArray} {st0 : Int} {w : World} (hR : Rdr w g t lo zs s (p0 : Int) st0) (hp : p0 ≤ s.size) (hz : zs.length = 256) (hs : s.size ≤ 65536) :
    CallsIn Fence.wide 9 Try.prog 29 #[.pointer (some ⟨g, 0, none⟩)] w fun e W' => e = .returned (tkV (nxt zs s p0 st0)) ∧ Rdr W' g t lo zs s (nxt zs s p0 st0).a (nxt zs s p0 st0).s ∧ Gr g w.heap.size w W' := by
  obtain ⟨x, hx⟩ : ∃ x, nxt zs s p0 st0 = x := ⟨_, rfl⟩
  rw [hx]
  have HX := hideP hx
  have hgl := hR.inn
  have HR := hideP hR
  clear hR hx
  refine callsIn_of_wp_marks Try.func29 rfl trivial ?_ rfl
  simp only [Try.ntmps29, List.size_toArray, List.length_cons, List.length_nil, Nat.reduceAdd, Nat.reduceSub, Array.replicate_succ, Array.replicate_zero, List.push_toArray, List.append_toArray, List.nil_append, List.cons_append]
  gi_wp2
  refine scope_back 0 (XJ zs s g t lo w x) (fun _ W => s.size - (intOf ((W.cell? ⟨g, 2, none⟩).getD undef)).toNat) ?first ?pass
  case first =>
    have hb2 : ¬ g = w.heap.size := by omega
    refine ⟨[], undef, undef, p0, st0, rfl, hp, HX.out, ?_⟩
    have e1 : ((w.alloc (.cells #[.pointer (some ⟨g, 0, none⟩)] 52)).alloc (.cells #[.int .i64 0] 2)).heap.size = w.heap.size + 2 := by simp
    have e2 : (w.alloc (.cells #[.pointer (some ⟨g, 0, none⟩)] 52)).heap.size = w.heap.size + 1 := by simp
    have q0 := ((Boxed.new w 52 (.pointer (some ⟨g, 0, none⟩))).alloc (.cells #[.int .i64 0] 2)).alloc (.cells #[.int .i64 0, .int .i64 0, .string ByteArray.empty] 34)
    have q1 := (Boxed.new (w.alloc (.cells #[.pointer (some ⟨g, 0, none⟩)] 52)) 2 (.int .i64 0)).alloc (.cells #[.int .i64 0, .int .i64 0, .string ByteArray.empty] 34)
    have q2 := World.alloc_heap_new ((w.alloc (.cells #[.pointer (some ⟨g, 0, none⟩)] 52)).alloc (.cells #[.int .i64 0] 2)) (.cells #[.int .i64 0, .int .i64 0, .string ByteArray.empty] 34)
    rw [e1] at q2
    rw [e2] at q1
    have bb : Below w.heap.size w (((w.alloc (.cells #[.pointer (some ⟨g, 0, none⟩)] 52)).alloc (.cells #[.int .i64 0] 2)).alloc (.cells #[.int .i64 0, .int .i64 0, .string ByteArray.empty] 34)) := (below2 w _ _).alloc (by rw [e1]; omega) _
    exact ⟨HR.out.below bb, q0, q1, q2, ⟨List.nodup_nil, fun r hr => (by cases hr)⟩, Gr.below bb, fun r hr => (by cases hr), hgl⟩
  case pass =>
    rintro _ W ⟨rs, v7, v8, pS, stS, rfl, hps, hn, hS⟩
    have hbr := hS.br.cell
    have cS := hS.rd.c2
    have hW2 : w.heap.size + 2 < W.heap.size := (Array.getElem?_eq_some_iff.1 hS.bt).1
    have MU : Hid (s.size - (intOf ((W.cell? ⟨g, 2, none⟩).getD undef)).toNat = s.size - pS) := hideP (by
      rw [cS]
      simp [intOf])
    have hrW : ∀ r ∈ rs, r < W.heap.size := fun r hr => (Array.getElem?_eq_some_iff.1 (hS.mks.2 r hr)).1
    have HRW := hideP hrW
    have HS := hideP hS
    clear hS cS hrW
    rw [MU.out]
    gi_wp2_with fail
    refine ⟨trivial, CallsIn.mono (callsIn_wide.2 (bytes_any g _)) ?_⟩
    rintro e w2 ⟨rfl, rfl⟩
    gi_wp2_with fail
    obtain ⟨W0, hW0⟩ : ∃ W0, W.alloc (.cells #[.pointer (some ⟨g, 0, none⟩)] 52) = W0 := ⟨_, rfl⟩
    have hsz : W0.heap.size = W.heap.size + 1 := by rw [← hW0]; simp
    have bs : Boxed W0 W.heap.size 52 (.pointer (some ⟨g, 0, none⟩)) := by rw [← hW0]; exact Boxed.new W 52 _
    have S0 : St zs s g t lo w rs W0 (pS : Int) stS 0 0 0 ByteArray.empty := by rw [← hW0]; exact HS.out.below (below1 W _)
    rw [hW0]
    have HSZ := hideP hsz
    have hw0 : w.heap.size ≤ W0.heap.size := S0.gr.size
    clear hW0 hsz hbr
    refine range_bytes (g := g) (t := t) (lo := lo) (Bs := W.heap.size) (zs := zs) (s := s) (by omega) hz hs rfl rfl
      (XA zs s g t lo w rs x W.heap.size pS) (XY zs s g t lo w rs x W.heap.size pS) (XX zs s g t lo w rs x pS)
      ?ow1 ?ow2 ?ow3 ?hA (by omega) ?hS pS ⟨hps, Nat.le_refl _, bs, stS, hn, S0⟩ ?a1 ?assign ?body ?done ?stop
    case assign =>
      intro l p W K hK
      gi_wp2
      exact hK
    case ow1 =>
      rintro p A B row ⟨h1, h2, h3, st, h4, h5⟩ hg hr
      have hr2 := fun r e => (hr r e).2
      exact ⟨h1, h2, boxed_own _ _ (fun (_ : Nat) => _) p A B row h3 hg hr2, st, h4, h5.kept hw0 (fun r hr => by have := HRW.out r hr; have := HSZ.out; omega) hg hr⟩
    case ow2 =>
      rintro p A B row ⟨h2, h3, st, h4, h5⟩ hg hr
      have hr2 := fun r e => (hr r e).2
      exact ⟨h2, boxed_own _ _ (fun (_ : Nat) => _) p A B row h3 hg hr2, st, h4, h5.kept hw0 (fun r hr => by have := HRW.out r hr; have := HSZ.out; omega) hg hr⟩
    case ow3 =>
      rintro c A B row (⟨h1, h2⟩ | ⟨h1, p, st, h2, h3, h4, h5⟩) hg hr
      · exact .inl ⟨h1, h2.kept hw0 (fun r hr => by have := HRW.out r hr; have := HSZ.out; omega) hg hr⟩
      · exact .inr ⟨h1, p, st, h2, h3, h4, h5.kept hw0 (fun r hr => by have := HRW.out r hr; have := HSZ.out; omega) hg hr⟩
    case hA =>
      rintro p W ⟨h1, h2, h3, st, h4, h5⟩
      exact ⟨h1, h3.cell, st, h5.rd⟩
    case hS =>
      rintro p W ⟨h1, h2, h3, st, h4, h5⟩ h6
      refine ⟨h2, (Below.heap_setCell _ _ _ _ (by simp; omega)).trans h3, st, h4, ?_⟩
      rw [show ((p + 1 : Nat) : Int) = (p : Int) + 1 by omega]
      exact h5.setAt ((p : Int) + 1)
    case body =>
      rintro l p W2 ⟨h2, h3, st, h4, h5⟩ h6
      have hbr := h5.br.cell
      have c3 := h5.rd.c3
      have f3 := h5.rd.free 3
      have cK := h5.cK
      have fK := h5.fK 0
      obtain ⟨t0, t1, t2⟩ := h5.cT
      have f0 := h5.fT 0
      have f1 := h5.fT 1
      have f2 := h5.fT 2
      have hW3 : w.heap.size + 2 < W2.heap.size := (Array.getElem?_eq_some_iff.1 h5.bt).1
      have hg1 : ¬ g = w.heap.size := by omega
      have hg2 : ¬ g = w.heap.size + 1 := by omega
      have hg3 : ¬ g = w.heap.size + 2 := by omega
      rw [nxt_step h6] at h4
      have hbl := byteAt_le s p
      have hgW : g < W0.heap.size := by omega
      have B3 := hideP h3
      have H5 := hideP h5
      clear h3 h5
      obtain ⟨c, hc⟩ : ∃ c, c = catAt zs s p := ⟨_, rfl⟩
      obtain ⟨y, hy⟩ : ∃ y, y = byteAt s p := ⟨_, rfl⟩
      rw [← hc, ← hy] at h4
      rw [← hy] at hbl
      simp only [← hc, ← hy]
      have HC := hideP hc
      clear hc hy
      by_cases n0 : c = 0
      · subst n0
        rw [if_pos rfl] at h4
        have NM := hideP (callsIn_wide.1 (nameI_in H5.out.rd (by omega) hz hs))
        obtain ⟨nm, hnm⟩ : ∃ nm, nm = nmS zs s (p + 1) := ⟨_, rfl⟩
        rw [← hnm] at h4 NM
        have E := nmS_eq zs s (p + 1)
        rw [← hnm] at E
        obtain ⟨k', c', e', n', a', s'⟩ := nm
        injection E with E1 E2 E3
        subst E1 E2 E3
        subst h4
        clear hnm
        gi_wp2_with fail
        refine ⟨trivial, CallsIn.mono (CallsIn.inRound l (callsIn_wide.2 NM.out)) ?_⟩
        rintro e W3 ⟨rfl, hr3, hg3⟩
        have S3 := H5.out.grow hg3 hr3
        have KG : KeepsFrom W0.heap.size W2 W3 := keeps_of_gr hg3 hgW
        have cK := S3.cK
        have fK := S3.fK 0
        obtain ⟨t0, t1, t2⟩ := S3.cT
        have f0 := S3.fT 0
        have f1 := S3.fT 1
        have f2 := S3.fT 2
        have HS3 := hideP S3
        have HKG := hideP KG
        clear S3 hr3 hg3 KG
        gi_wp2
        have KG := HKG.out
        exact ⟨(by repeat (first | exact KeepsFrom.refl _ _ | exact KG | refine keeps_set ?_ _ _)), .inl ⟨rfl, (HS3.out.setK 1).setT 0 0 n'⟩⟩
      rw [if_neg n0] at h4
      have n0b : (c == 0) = false := by simp [n0]
      have n0d : decide (c = 0) = false := by simp [n0]
      by_cases n6 : c = 6
      · subst n6
        rw [if_pos rfl] at h4
        by_cases s0 : st = 0
        · subst s0
          rw [if_pos rfl] at h4
          subst h4
          gi_wp2
          exact ⟨(by repeat (first | exact KeepsFrom.refl _ _ | exact KG | refine keeps_set ?_ _ _)), .inl ⟨rfl, ((H5.out.setSt 0).setK 1).setT 0 0 parS⟩⟩
        rw [if_neg s0] at h4
        have s0b : (st == 0) = false := by simp [s0]
        have s0d : decide (st = 0) = false := by simp [s0]
        by_cases s1 : st = 1
        · subst s1
          rw [if_pos rfl] at h4
          subst h4
          have S3 := H5.out.setSt 0
          gi_wp2_with fail
          refine ⟨trivial, CallsIn.mono (CallsIn.inRound l (callsIn_wide.2 (blankI_any _))) ?_⟩
          rintro e W4 ⟨rfl, hb4⟩
          have S4 := S3.below hb4
          have KG : KeepsFrom W0.heap.size W2 W4 := (keeps_set (KeepsFrom.refl _ _) _ _).trans (keeps_of_gr (g := g) (Gr.below hb4) hgW)
          have cK := S4.cK
          have fK := S4.fK 0
          obtain ⟨t0, t1, t2⟩ := S4.cT
          have f0 := S4.fT 0
          have f1 := S4.fT 1
          have f2 := S4.fT 2
          have HS4 := hideP S4
          have HKG := hideP KG
          clear S3 S4 hb4 KG
          gi_wp2
          have KG := HKG.out
          exact ⟨(by repeat (first | exact KeepsFrom.refl _ _ | exact KG | refine keeps_set ?_ _ _)), .inl ⟨rfl, (HS4.out.setK 1).setT 3 32 ByteArray.empty⟩⟩
        rw [if_neg s1] at h4
        have s1b : (st == 1) = false := by simp [s1]
        have s1d : decide (st = 1) = false := by simp [s1]
        gi_wp2
        refine wpIn_goto ?_
        exact ⟨(by repeat (first | exact KeepsFrom.refl _ _ | exact KG | refine keeps_set ?_ _ _)), .inr ⟨rfl, p + 1, 0, by omega, by omega, h4, H5.out.setSt 0⟩⟩
      rw [if_neg n6] at h4
      have n6b : (c == 6) = false := by simp [n6]
      have n6d : decide (c = 6) = false := by simp [n6]
      by_cases n3 : c = 3
      · subst n3
        rw [if_pos rfl] at h4
        by_cases s1 : st = 1
        · subst s1
          rw [if_pos rfl] at h4
          subst h4
          have S3 := H5.out.setSt 2
          gi_wp2_with fail
          refine ⟨trivial, CallsIn.mono (CallsIn.inRound l (callsIn_wide.2 (blankI_any _))) ?_⟩
          rintro e W4 ⟨rfl, hb4⟩
          have S4 := S3.below hb4
          have KG : KeepsFrom W0.heap.size W2 W4 := (keeps_set (KeepsFrom.refl _ _) _ _).trans (keeps_of_gr (g := g) (Gr.below hb4) hgW)
          have cK := S4.cK
          have fK := S4.fK 0
          obtain ⟨t0, t1, t2⟩ := S4.cT
          have f0 := S4.fT 0
          have f1 := S4.fT 1
          have f2 := S4.fT 2
          have HS4 := hideP S4
          have HKG := hideP KG
          clear S3 S4 hb4 KG
          gi_wp2
          have KG := HKG.out
          exact ⟨(by repeat (first | exact KeepsFrom.refl _ _ | exact KG | refine keeps_set ?_ _ _)), .inl ⟨rfl, (HS4.out.setK 1).setT 3 32 ByteArray.empty⟩⟩
        rw [if_neg s1] at h4
        have s1b : (st == 1) = false := by simp [s1]
        have s1d : decide (st = 1) = false := by simp [s1]
        gi_wp2
        exact ⟨KeepsFrom.refl _ _, by omega, by omega, B3.out, st, h4, H5.out⟩
      rw [if_neg n3] at h4
      have n3b : (c == 3) = false := by simp [n3]
      have n3d : decide (c = 3) = false := by simp [n3]
      by_cases n8 : c = 8
      · subst n8
        rw [if_pos rfl] at h4
        have NM := hideP (callsIn_wide.1 (pass_in H5.out.rd (by omega) hz hs))
        gi_wp2_with fail
        refine ⟨trivial, CallsIn.mono (CallsIn.inRound l (callsIn_wide.2 NM.out)) ?_⟩
        rintro e W3 ⟨⟨v, rfl⟩, hr3, hg3⟩
        have S3 := H5.out.grow hg3 hr3
        have KG : KeepsFrom W0.heap.size W2 W3 := keeps_of_gr hg3 hgW
        have hbr := S3.br.cell
        have c3 := S3.rd.c3
        have f3 := S3.rd.free 3
        have k1 := skN_ge zs s (p + 1)
        have k2 := skN_le (zs := zs) (show p + 1 ≤ s.size by omega)
        have HS3 := hideP S3
        have HKG := hideP KG
        clear S3 hr3 hg3 KG
        gi_wp2
        refine wpIn_goto ?_
        have KG := HKG.out
        exact ⟨(by repeat (first | exact KeepsFrom.refl _ _ | exact KG | refine keeps_set ?_ _ _)), .inr ⟨rfl, skN zs s (p + 1), 0, by omega, k2, h4, HS3.out.setSt 0⟩⟩
      rw [if_neg n8] at h4
      have n8b : (c == 8) = false := by simp [n8]
      have n8d : decide (c = 8) = false := by simp [n8]
      by_cases n9 : c = 9
      · subst n9
        rw [if_pos rfl] at h4
        gi_wp2
        exact ⟨KeepsFrom.refl _ _, by omega, by omega, B3.out, st, h4, H5.out⟩
      rw [if_neg n9] at h4
      have n9b : (c == 9) = false := by simp [n9]
      have n9d : decide (c = 9) = false := by simp [n9]
      by_cases n15 : c = 15
      · subst n15
        rw [if_pos rfl] at h4
        subst h4
        gi_wp2
        exact ⟨(by repeat (first | exact KeepsFrom.refl _ _ | exact KG | refine keeps_set ?_ _ _)), .inl ⟨rfl, (H5.out.setK 2).setT 0 0 ByteArray.empty⟩⟩
      rw [if_neg n15] at h4
      have n15b : (c == 15) = false := by simp [n15]
      have n15d : decide (c = 15) = false := by simp [n15]
      subst h4
      gi_wp2
      exact ⟨(by repeat (first | exact KeepsFrom.refl _ _ | exact KG | refine keeps_set ?_ _ _)), .inl ⟨rfl, ((H5.out.setSt 1).setK 1).setT c y ByteArray.empty⟩⟩
    case done =>
      rintro D p W2 hD hpe ⟨h1, h2, h3, st, h4, h5⟩ hK
      have cK := h5.cK
      have fK := h5.fK 0
      obtain ⟨t0, t1, t2⟩ := h5.cT
      have f0 := h5.fT 0
      have f1 := h5.fT 1
      have f2 := h5.fT 2
      have HF := hideP (And.intro h4 (And.intro h5 hK))
      clear h4 h5 hK h3
      gi_wp2
      obtain ⟨h4, h5, hK⟩ := HF.out
      have hnr : D ∉ rs := fun hr => by have := HRW.out D hr; have := HSZ.out; omega
      have hx : x = ⟨0, 0, 0, ByteArray.empty, p, st⟩ := by rw [← h4, nxt_end hpe]
      subst hx
      exact next_leaves (rs := D :: rs) (((h5.mark hK (by omega) hnr).setK 0).setT 0 0 ByteArray.empty) _ rfl rfl
    case stop =>
      rintro D c W2 hD (⟨rfl, h5⟩ | ⟨rfl, p, st, h2, h3, h4, h5⟩) hK
      · have hnr : D ∉ rs := fun hr => by have := HRW.out D hr; have := HSZ.out; omega
        refine wpIn_ret ?_
        exact next_leaves (rs := D :: rs) (h5.mark hK (by omega) hnr) _ rfl rfl
      · have hnr : D ∉ rs := fun hr => by have := HRW.out D hr; have := HSZ.out; omega
        refine wpIn_goto ?_
        refine ⟨rfl, ⟨D :: rs, _, _, p, st, rfl, h3, h4, h5.mark hK (by omega) hnr⟩, ?_⟩
        rw [h5.rd.c2]
        simp only [Option.getD_some, intOf]
        omega
end Go.Proofs.Ytkiiiahljlkjnaa
