import Derived.Test.YtbpidcfoldkhgaaGreatToksB
namespace Go.Proofs.YtbpidcfoldkhgaaGreat
open Go.RowKit
set_option linter.unusedVariables false
set_option linter.unusedSimpArgs false
abbrev macV (vp : Value) (l : Int) (vb : Value) : Value := .agg #[vp, .int .i64 l, vb]
abbrev meanV (k n : Int) (t : Tk) (vp : Value) (l : Int) (vb : Value) : Value := .agg #[.int .i64 k, .int .i64 n, .int .i64 t.c, .int .i64 t.h, .string t.s, vp, .int .i64 l, vb]
def Fine (ts : List Tk) : Prop := ts.length ≤ 9223372036854775807 ∧ ∀ i, i < ts.length → (ts.getD i Tk.none).s.size ≤ 9223372036854775807
theorem below1 (w : World) (o : Obj) : Below w.heap.size w (w.alloc o) := (Below.refl _ _).alloc (Nat.le_refl _) _
theorem below2 (w : World) (o o2 : Obj) : Below w.heap.size w ((w.alloc o).alloc o2) := (below1 w o).alloc (by simp) _
theorem below3 (w : World) (o o2 o3 : Obj) : Below w.heap.size w (((w.alloc o).alloc o2).alloc o3) := (below2 w o o2).alloc (by simp; omega) _
structure Abv (lo : Nat) (w w' : World) : Prop where
 size : w.heap.size ≤ w'.heap.size
 block : ∀ k, lo ≤ k → k < w.heap.size → w'.heap[k]? = w.heap[k]?
theorem Abv.refl (lo : Nat) (w : World) : Abv lo w w := ⟨Nat.le_refl _, fun _ _ _ => rfl⟩
theorem Abv.trans {lo : Nat} {a b c : World} (h : Abv lo a b) (k : Abv lo b c) : Abv lo a c :=
 ⟨Nat.le_trans h.size k.size, fun i h1 h2 => (k.block i h1 (Nat.lt_of_lt_of_le h2 h.size)).trans (h.block i h1 h2)⟩
theorem Abv.below {lo : Nat} {w w' : World} (h : Below w.heap.size w w') : Abv lo w w' := ⟨h.size, fun k _ hk => h.block k hk⟩
theorem Abv.set {lo b o : Nat} {w : World} (h : b < lo) (x : Value) : Abv lo w (w.setCell ⟨b, o, none⟩ x) :=
 ⟨by simp, fun k h1 _ => Below.heap_setCell _ _ _ _ (by simp; omega)⟩
theorem Abv.mono {lo lo' : Nat} {w w' : World} (h : Abv lo w w') (hl : lo ≤ lo') : Abv lo' w w' := ⟨h.size, fun k h1 h2 => h.block k (by omega) h2⟩
def TIn (lo : Nat) (w : World) (v : Value) (ts : List Tk) : Prop := TRow w v ts ∧ ∀ b off n cap, v = .slice (some ⟨b, off, none⟩) n cap → lo ≤ b
theorem TIn.abv {lo : Nat} {w w' : World} {v : Value} {ts : List Tk} (h : TIn lo w v ts) (ha : Abv lo w w') : TIn lo w' v ts := by
 obtain ⟨⟨ao, n, cap, rfl, hn, hc⟩, hlo⟩ := h
 refine ⟨⟨ao, n, cap, rfl, hn, fun hp => ?_⟩, hlo⟩
 obtain ⟨b, off, rfl, hlt, hcell⟩ := hc hp
 have hb : w'.heap[b]? = w.heap[b]? := ha.block b (hlo b off n cap rfl) hlt
 refine ⟨b, off, rfl, Nat.lt_of_lt_of_le hlt ha.size, fun i hi => ?_⟩
 obtain ⟨h1, h2, h3⟩ := hcell i hi
 exact ⟨(World.cell?_of_block (w := w) (a := ⟨b, off + i * 3, none⟩) hb).trans h1, (World.cell?_of_block (w := w) (a := ⟨b, off + i * 3 + 1, none⟩) hb).trans h2, (World.cell?_of_block (w := w) (a := ⟨b, off + i * 3 + 2, none⟩) hb).trans h3⟩
theorem TIn.mono {lo lo' : Nat} {w : World} {v : Value} {ts : List Tk} (h : TIn lo w v ts) (hl : lo' ≤ lo) : TIn lo' w v ts := ⟨h.1, fun b off n cap e => Nat.le_trans hl (h.2 b off n cap e)⟩
theorem TIn.zero {w : World} {v : Value} {ts : List Tk} (h : TRow w v ts) : TIn 0 w v ts := ⟨h, fun _ _ _ _ _ => Nat.zero_le _⟩
theorem TIn.shape {lo : Nat} {w : World} {v : Value} {ts : List Tk} (h : TIn lo w v ts) : ∃ ao n cap, v = .slice ao n cap := by
 obtain ⟨⟨ao, n, cap, e, _⟩, _⟩ := h
 exact ⟨ao, n, cap, e⟩
theorem toTokens_in {v : Value} {ts : List Tk} {w : World} (h : TRow w v ts) (hsz : ts.length ≤ 1048576) :
 Calls Tryz.prog 93 #[v] w fun e w' => ∃ v', e = .returned v' ∧ TIn w.heap.size w' v' ts ∧ Below w.heap.size w w' := by
 refine (toTokens_any h hsz).mono ?_
 rintro e w' ⟨rfl, hp, hb⟩
 refine ⟨_, rfl, ⟨hp.row rfl, fun b off n cap e => ?_⟩, hb⟩
 simp at e
 omega
set_option maxHeartbeats 1000000 in
theorem szMacro_any {vp vb : Value} {p b : List Tk} {sl : Int} {w : World} {l : Int} (hp : TRow w vp p) (hb : TRow w vb b) (fp : Fine p) (fb : Fine b) (hl0 : 0 ≤ l) (hl1 : l ≤ 1048576) :
 Calls Tryz.prog 132 #[macV vp sl vb, .int .i64 l] w fun e w' => (∃ m : Int, e = .returned (.int .i64 m) ∧ m ≤ l ∧ (0 ≤ m → m = l - weight p - weight b)) ∧ Below w.heap.size w w' := by
 have HP : Hid (TRow w vp p) := hp
 have HB : Hid (TRow w vb b) := hb
 obtain ⟨ao, n, cap, rfl, hx, hy⟩ := hp
 obtain ⟨ao2, n2, cap2, rfl, hx2, hy2⟩ := hb
 clear hx hy hx2 hy2
 have HF : Hid (Fine p ∧ Fine b) := ⟨fp, fb⟩
 clear fp fb
 go_enter Tryz.func132, Tryz.ntmps132
 go_wp2_with fail
 refine (szTokens_any (TRow.below HP (below1 _ _)) HF.1.1 HF.1.2 hl0 hl1).mono ?_
 rintro e w1 ⟨⟨m, rfl, hml, hm⟩, hb1⟩
 have hz1 : w.heap.size < w1.heap.size := by have := hb1.size; simp at this; omega
 obtain ⟨hc1, hf1⟩ := bcell hb1
 have B1 : Hid (Below w.heap.size w w1) := (below1 _ _).trans (hb1.mono (by simp))
 have HM : Hid (0 ≤ m → m = l - weight p) := hm
 clear hb1 hm
 by_cases hneg : m < 0
 ·go_wp2
  go_ret
  exact ⟨⟨-1, rfl, by omega, fun h => by omega⟩, B1⟩
 ·go_wp2_with fail
  refine (szTokens_any (TRow.below HB B1) HF.2.1 HF.2.2 (by omega) (by omega)).mono ?_
  rintro e w2 ⟨⟨m2, rfl, hml2, hm2⟩, hb2⟩
  have B2 : Hid (Below w.heap.size w w2) := Below.trans B1 (hb2.mono (Below.size B1))
  have HM2 : Hid (0 ≤ m2 → m2 = m - weight b) := hm2
  clear hb2 hm2
  by_cases hneg2 : m2 < 0
  ·go_wp2
   go_ret
   exact ⟨⟨-1, rfl, by omega, fun h => by omega⟩, B2⟩
  ·go_wp2
   go_ret
   refine ⟨⟨m2, rfl, by omega, fun h => ?_⟩, B2⟩
   have h1 := HM (by omega)
   have h2 := HM2 (by omega)
   omega
set_option maxHeartbeats 1000000 in
theorem szMean_any {k n : Int} {t : Tk} {vp vb : Value} {p b : List Tk} {sl : Int} {w : World} {l : Int} (hp : TRow w vp p) (hb : TRow w vb b) (fp : Fine p) (fb : Fine b) (ft : t.s.size ≤ 9223372036854775807) (hl0 : 0 ≤ l) (hl1 : l ≤ 1048576) :
 Calls Tryz.prog 115 #[meanV k n t vp sl vb, .int .i64 l] w fun e w' => (∃ m : Int, e = .returned (.int .i64 m) ∧ m ≤ l ∧ (0 ≤ m → m = l - t.s.size - weight p - weight b)) ∧ Below w.heap.size w w' := by
 have HP : Hid (TRow w vp p) := hp
 have HB : Hid (TRow w vb b) := hb
 obtain ⟨ao, n1, cap, rfl, hx, hy⟩ := hp
 obtain ⟨ao2, n2, cap2, rfl, hx2, hy2⟩ := hb
 clear hx hy hx2 hy2
 have HF : Hid (Fine p ∧ Fine b) := ⟨fp, fb⟩
 clear fp fb
 go_enter Tryz.func115, Tryz.ntmps115
 go_wp2_with fail
 refine (szToken_val _ _ _ _ _ hl0 hl1 ft).mono ?_
 rintro e w1 ⟨he, hb1⟩
 have hz1 : w.heap.size < w1.heap.size := by have := hb1.size; simp at this; omega
 obtain ⟨hc1, hf1⟩ := bcell hb1
 have B1 : Hid (Below w.heap.size w w1) := (below1 _ _).trans (hb1.mono (by simp))
 clear hb1
 by_cases hneg : l - t.s.size < 0
 ·rw [if_pos hneg] at he
  subst he
  go_wp2
  go_ret
  exact ⟨⟨-1, rfl, by omega, fun h => by omega⟩, B1⟩
 ·rw [if_neg hneg] at he
  subst he
  obtain ⟨m, hm⟩ : ∃ m : Int, m = l - t.s.size := ⟨_, rfl⟩
  rw [← hm] at hneg
  rw [← hm]
  have HM : Hid (m = l - t.s.size) := hm
  have hm0 : 0 ≤ m := by omega
  have hm1 : m ≤ l := by omega
  clear hm
  go_wp2_with fail
  refine (szMacro_any (TRow.below HP B1) (TRow.below HB B1) HF.1 HF.2 hm0 (by omega)).mono ?_
  rintro e w2 ⟨⟨m2, rfl, hml2, hm2⟩, hb2⟩
  have B2 : Hid (Below w.heap.size w w2) := Below.trans B1 (hb2.mono (Below.size B1))
  have HM2 : Hid (0 ≤ m2 → m2 = m - weight p - weight b) := hm2
  clear hb2 hm2
  by_cases hneg2 : m2 < 0
  ·go_wp2
   go_ret
   exact ⟨⟨-1, rfl, by omega, fun h => by omega⟩, B2⟩
  ·go_wp2
   go_ret
   refine ⟨⟨m2, rfl, by omega, fun h => ?_⟩, B2⟩
   have h1 : m = l - t.s.size := HM
   have h2 := HM2 (by omega)
   omega
set_option maxHeartbeats 1000000 in
theorem toMacro_any {vp vb : Value} {p b : List Tk} {sl : Int} {w : World} (hp : TRow w vp p) (hb : TRow w vb b) (lp : p.length ≤ 1048576) (lb : b.length ≤ 1048576) :
 Calls Tryz.prog 133 #[macV vp sl vb] w fun e w' => ∃ vp' vb', e = .returned (macV vp' sl vb') ∧ TIn w.heap.size w' vp' p ∧ TIn w.heap.size w' vb' b ∧ Below w.heap.size w w' := by
 have HP : Hid (TRow w vp p) := hp
 have HB : Hid (TRow w vb b) := hb
 obtain ⟨ao, n, cap, rfl, hx, hy⟩ := hp
 obtain ⟨ao2, n2, cap2, rfl, hx2, hy2⟩ := hb
 clear hx hy hx2 hy2
 go_enter Tryz.func133, Tryz.ntmps133
 go_wp2_with fail
 refine (toTokens_in (TRow.below HP (below3 _ _ _ _)) lp).mono ?_
 rintro e w1 ⟨v1, rfl, hp1, hb1⟩
 obtain ⟨a1, n1, c1, rfl⟩ := hp1.shape
 have hz1 : w.heap.size + 1 + 1 < w1.heap.size := by have := hb1.size; simp at this; omega
 have hy1 : w.heap.size + 1 < w1.heap.size := by omega
 have hx1 : w.heap.size < w1.heap.size := by omega
 obtain ⟨hc1, hf1⟩ := bcell hb1
 have B1 : Hid (Below w.heap.size w w1) := (below3 _ _ _ _).trans (hb1.mono (by simp; omega))
 simp only [World.size_alloc] at hc1 hf1 hp1
 have P1 : Hid (TIn (w.heap.size + 1 + 1 + 1) w1 (.slice a1 n1 c1) p) := hp1
 clear hb1 hp1
 go_wp2_with fail
 have BW : Below w.heap.size w ((w1.setCell ⟨w.heap.size + 1 + 1, 0, none⟩ (.slice a1 n1 c1)).setCell ⟨w.heap.size + 1 + 1, 1, none⟩ (.int .i64 sl)) := (Below.setCell B1 (by simp; omega) _).setCell (by simp; omega) _
 have PW : TIn (w.heap.size + 1 + 1 + 1) ((w1.setCell ⟨w.heap.size + 1 + 1, 0, none⟩ (.slice a1 n1 c1)).setCell ⟨w.heap.size + 1 + 1, 1, none⟩ (.int .i64 sl)) (.slice a1 n1 c1) p := TIn.abv (TIn.abv P1 (Abv.set (by omega) _)) (Abv.set (by omega) _)
 refine (toTokens_in (TRow.below HB BW) lb).mono ?_
 rintro e w2 ⟨v2, rfl, hp2, hb2⟩
 obtain ⟨a2, m2, c2, rfl⟩ := hp2.shape
 have hz2 : w.heap.size + 1 + 1 < w2.heap.size := by have := hb2.size; simp at this; omega
 have hy2 : w.heap.size + 1 < w2.heap.size := by omega
 have hx2 : w.heap.size < w2.heap.size := by omega
 obtain ⟨hc2, hf2⟩ := bcell hb2
 have B2 : Hid (Below w.heap.size w w2) := Below.trans BW (hb2.mono (Below.size BW))
 have P2 : Hid (TIn (w.heap.size + 1 + 1 + 1) w2 (.slice a1 n1 c1) p) := PW.abv (Abv.below hb2)
 have P3 : Hid (TIn (w.heap.size + 1 + 1 + 1) w2 (.slice a2 m2 c2) b) := hp2.mono (by simp; omega)
 simp only [World.size_setCell] at hc2 hf2
 clear hb2 hp2 BW PW
 go_wp2
 refine bodyPost_ret (v := macV (.slice a1 n1 c1) sl (.slice a2 m2 c2)) (by simp [results, Tryz.results133, go_sem, hc1, hc2, hx1, hx2, hy1, hy2, hz1, hz2]) rfl ⟨_, _, rfl, ?_, ?_, ?_⟩
 ·exact ((((TIn.abv P2 (Abv.set (by omega) _)).abv (Abv.set (by omega) _)).abv (Abv.set (by omega) _)).abv (Abv.set (by omega) _)).mono (by omega)
 ·exact ((((TIn.abv P3 (Abv.set (by omega) _)).abv (Abv.set (by omega) _)).abv (Abv.set (by omega) _)).abv (Abv.set (by omega) _)).mono (by omega)
 ·exact (((Below.setCell B2 (by simp; omega) _).setCell (by simp) _).setCell (by simp) _).setCell (by simp) _
end Go.Proofs.YtbpidcfoldkhgaaGreat
