/-
  Where the atoms that are in no other's part stand: the specification's list of places.
-/
import Derived.Test.YtfcfihlkckdmbaaSml
import Derived.Maps.AppendAt
import Derived.OwnWalk
namespace Go.Proofs.Ytfcfihlkckdmbaa
open Go.RowKit
set_option linter.unusedVariables false
set_option linter.unusedSimpArgs false

/-- The places of the atoms that are in no other's part, from place at on; the number bounds how many. -/
def startsF : Nat → List At → Nat → List Nat
  | 0, _, _ => []
  | _ + 1, [], _ => []
  | n + 1, a :: r, at0 => at0 :: startsF n (r.drop a.kids.toNat) (at0 + 1 + a.kids.toNat)
theorem startsF_same : ∀ (n m : Nat) (ys : List At) (p : Nat), ys.length ≤ n → ys.length ≤ m → startsF n ys p = startsF m ys p := by
  intro n
  induction n with
  | zero =>
    intro m ys p h1 h2
    obtain rfl : ys = [] := List.eq_nil_of_length_eq_zero (by omega)
    cases m <;> rfl
  | succ n ih =>
    intro m ys p h1 h2
    cases ys with
    | nil => cases m <;> rfl
    | cons a r =>
      cases m with
      | zero => simp at h2
      | succ m =>
        simp only [List.length_cons] at h1 h2
        simp only [startsF]
        rw [ih m _ _ (by rw [List.length_drop]; omega) (by rw [List.length_drop]; omega)]
/-- The places of the atoms that are in no other's part, from place at on. -/
def starts (ys : List At) (p : Nat) : List Nat := startsF ys.length ys p
theorem starts_nil (p : Nat) : starts [] p = [] := rfl
theorem starts_cons (a : At) (r : List At) (p : Nat) : starts (a :: r) p = p :: starts (r.drop a.kids.toNat) (p + 1 + a.kids.toNat) := by
  show p :: startsF r.length (r.drop a.kids.toNat) (p + 1 + a.kids.toNat) = p :: startsF _ _ _
  rw [startsF_same r.length (r.drop a.kids.toNat).length _ _ (by rw [List.length_drop]; omega) (Nat.le_refl _)]

theorem starts_tops (xs : List At) : ∀ (m k : Nat), xs.length - k ≤ m → (starts (xs.drop k) k).map (fun p => xs.getD p At.none) = tops (xs.drop k) := by
  intro m
  induction m with
  | zero =>
    intro k hk
    rw [List.drop_eq_nil_of_le (by omega), starts_nil, tops_nil]
    rfl
  | succ m ih =>
    intro k hk
    by_cases h : k < xs.length
    · rw [drop_at h, starts_cons, tops_cons, List.map_cons, List.drop_drop]
      have := ih (k + 1 + (xs.getD k At.none).kids.toNat) (by omega)
      rw [this]
    · rw [List.drop_eq_nil_of_le (by omega), starts_nil, tops_nil]
      rfl

def natI (ps : List Nat) : List Int := ps.map (fun p : Nat => (p : Int))
/-- A row of ints of its own. -/
def IR (w : World) (base : Nat) (v : Value) (m : Nat) (zs : List Int) : Prop := w.ownsRow base 3 1 v m (zs.map (Value.int .i64))
theorem stk_cap {w : World} {base g m c : Nat} {S : List Int} (h : IR w base (.slice (some ⟨g, 0, none⟩) m c) m S) : m ≤ c ∧ c ≤ 9223372036854775807 ∧ base ≤ g ∧ g < w.heap.size := by
  rcases h.2 with ⟨h0, _⟩ | ⟨g', cap', cur, h0, hb, hg, hm, hc, _⟩
  · simp at h0
  · simp at h0
    obtain ⟨rfl, rfl⟩ := h0
    unfold maxLen at hc
    exact ⟨hm, hc, hb, (Array.getElem?_eq_some_iff.1 hg).1⟩
theorem IR.below {w w' : World} {base : Nat} {v : Value} {m : Nat} {S : List Int} (h : IR w base v m S) (hb : Below w.heap.size w w') : IR w' base v m S := by
  obtain ⟨h1, h2⟩ := h
  refine ⟨h1, ?_⟩
  rcases h2 with h2 | ⟨g, cap, cur, hv, hg, hh, hr⟩
  · exact .inl h2
  · exact .inr ⟨g, cap, cur, hv, hg, (hb.block g (Array.getElem?_eq_some_iff.1 hh).1).trans hh, hr⟩
theorem Try.info3b : (Try.prog.info? 3).map (fun i => (i.zero, i.size, i.bytes)) = some (some (.int .i64 0), 1, 8) := by kernel_rfl

theorem ok_head {a : At} {r : List At} {deep : Nat} (h : ok (a :: r) deep = true) : atomB a = true ∧ a.kids ≤ r.length ∧ ok (r.drop a.kids.toNat) deep = true := by
  rw [ok_cons] at h
  simp only [Bool.and_eq_true, decide_eq_true_eq] at h
  exact ⟨h.1.1.1.1.1.1.2, h.1.1.1.1.1.2, h.2⟩

set_option maxRecDepth 20000 in
set_option maxHeartbeats 4000000 in
theorem starts_any {v : Value} {xs : List At} {w : World} {deep : Nat} (h : ARow 0 w v xs) (hlen : xs.length ≤ 2000) (hok : ok xs deep = true) :
    Calls Try.prog 31 #[v] w fun e w' => (∃ u, e = .returned u ∧ IR w' w.heap.size u (starts xs 0).length (natI (starts xs 0))) ∧ Below w.heap.size w w' := by
  have HA := hideP h
  obtain ⟨ao, n, cap, rfl, hl, hr⟩ := h
  have HL := hideP hl
  have hn : n ≤ 2000 := by rw [← hl]; exact hlen
  have HO := hideP hok
  obtain ⟨Z, hZ⟩ : ∃ Z, Z = starts xs 0 := ⟨_, rfl⟩
  rw [← hZ]
  have HZ := hideP hZ
  clear hr hl hlen hZ hok
  go_enter Try.func31, Try.ntmps31
  go_wp2
  go_loopw [3, 4] (fun s a wr => ∃ (i : Nat) (pre : List Nat) (g c r : Nat), a = .int .i64 (i : Int) ∧ i ≤ n ∧ Hid (pre ++ starts (xs.drop i) i = Z) ∧ Hid (ok (xs.drop i) deep = true) ∧ r ≤ i ∧ pre.length = r ∧ s = .slice (some ⟨g, 0, none⟩) r c ∧ IR wr w.heap.size (.slice (some ⟨g, 0, none⟩) r c) r (natI pre) ∧ Below w.heap.size w wr) (fun _ a _ => n - (intOf a).toNat)
  case atStart =>
    exact ⟨0, [], w.heap.size, 0, 0, rfl, by omega, hideP (by rw [HZ.out]; rfl), hideP (by simpa using HO.out), by omega, rfl, rfl, ⟨rfl, .inr ⟨_, _, _, rfl, Nat.le_refl _, heap_alloc_new w _, by omega, by decide, rfl, rfl⟩⟩, below1 _ _⟩
  case round =>
    obtain ⟨i, pre, g, c, r, rfl, hi, HP, HK, hri, hpr, rfl, hI, hbel⟩ := hrel
    by_cases hin : i < n
    · have hii : (i : Int) < (n : Int) := by omega
      obtain ⟨b, off, cap', hv, hb, c0, c1, c2, c3, c4, c5⟩ := ARow.cells HA.out (k := i) (by rw [HL.out]; exact hin)
      simp only [Value.slice.injEq] at hv
      obtain ⟨rfl, hv1, hv2⟩ := hv
      clear hv1 hv2
      obtain ⟨t, ht⟩ : ∃ t, t = xs.getD i At.none := ⟨_, rfl⟩
      rw [← ht] at c0 c1 c2 c3 c4 c5
      have hok2 := HK.out
      rw [drop_at (by rw [HL.out]; exact hin), ← ht] at hok2
      obtain ⟨ha, hkl, hk2⟩ := ok_head hok2
      have hcn := atomB_cnt ha
      rw [List.length_drop, HL.out] at hkl
      rw [List.drop_drop] at hk2
      have HN := hideP hk2
      have HST : Hid ((pre ++ [i]) ++ starts (xs.drop (i + 1 + t.kids.toNat)) (i + 1 + t.kids.toNat) = Z) := hideP (by
        have h := HP.out
        rw [drop_at (by rw [HL.out]; exact hin), ← ht, starts_cons, List.drop_drop] at h
        rw [List.append_assoc]
        exact h)
      obtain ⟨kd, hkd⟩ : ∃ z, z = t.kids := ⟨_, rfl⟩
      have hkd0 : 0 ≤ kd := by rw [hkd]; unfold At.kids; omega
      have hkd1 : i + 1 + kd.toNat ≤ n := by rw [← hkd] at hkl; omega
      have CK : Hid (∀ W, Calls Try.prog 28 #[atV t] W fun e w' => e = .returned (.int .i64 kd) ∧ Below W.heap.size W w') := hideP (fun W => by rw [hkd]; exact kids_any t W (by omega))
      rw [← hkd] at HN HST
      clear hkd ht hok2 ha hkl hk2 hcn
      obtain ⟨zk, zc, zh, zb, zu, zd⟩ := t
      dsimp only at c0 c1 c2 c3 c4 c5
      simp only [atV] at CK
      have HI := hideP hI
      have HB := hideP hbel
      have hw1 : w.heap.size ≤ wr.heap.size := hbel.size
      have HPR := hideP hpr
      obtain ⟨i0, hi0, hy0, hy1, hy2⟩ := info_parts Try.info3b
      have Q : Hid (∀ x, Below w.heap.size w x → x.cell? ⟨b, off + i * 6, none⟩ = some (.int .i64 zk) ∧ x.cell? ⟨b, off + i * 6 + 1, none⟩ = some (.int .i64 zc) ∧ x.cell? ⟨b, off + i * 6 + 2, none⟩ = some (.int .i64 zh) ∧ x.cell? ⟨b, off + i * 6 + 3, none⟩ = some (.int .i64 zb) ∧ x.cell? ⟨b, off + i * 6 + 4, none⟩ = some (.int .i64 zu) ∧ x.cell? ⟨b, off + i * 6 + 5, none⟩ = some (.int .i64 zd)) := hideP (fun x hx => ⟨(hx.cell (p := ⟨b, off + i * 6, none⟩) hb).trans c0, (hx.cell (p := ⟨b, off + i * 6 + 1, none⟩) hb).trans c1, (hx.cell (p := ⟨b, off + i * 6 + 2, none⟩) hb).trans c2, (hx.cell (p := ⟨b, off + i * 6 + 3, none⟩) hb).trans c3, (hx.cell (p := ⟨b, off + i * 6 + 4, none⟩) hb).trans c4, (hx.cell (p := ⟨b, off + i * 6 + 5, none⟩) hb).trans c5⟩)
      clear c0 c1 c2 c3 c4 c5 hI hbel hpr
      go_wp2_with (at_builtin; refine wpList_append_own_at _ rfl _ _ 53 rfl w.heap.size 3 i0 (.int .i64 0) 1 8 Try.underlying53 hi0 hy0 hy1 hy2 rfl (by decide) _ _ _ rfl (World.ownsRow.alloc HI.out _) ⟨wr.heap.size, 0, none⟩ 1 1 [.int .i64 (i : Int)] rfl rfl (cell_one_new _ _ _) (by intro u hu; simp at hu; subst hu; rfl) (by unfold maxLen; omega) (by omega) (by simp; omega) ?_; intro v6 w6 hown6 hgrow6 hnil6 hlies6; have hg6 : (wr.alloc (.cells #[.int .i64 (i : Int)] 3)).grownBy w6 (some g) := hgrow6; have hB6 : Below w.heap.size w w6 := Below.grown (HB.out.alloc hw1 _) hg6 (by simp; omega) (by intro j hj; simp at hj; subst hj; exact (stk_cap HI.out).2.2.1); have hI5 : IR w6 w.heap.size v6 (r + 1) (natI pre ++ [(i : Int)]) := (by show w6.ownsRow w.heap.size 3 1 v6 (r + 1) ((natI pre ++ [(i : Int)]).map (Value.int .i64)); rw [List.map_append]; exact hown6); have H6 := hideP (And.intro hI5 hB6); clear hI5; obtain ⟨k0, k1, k2, k3, k4, k5⟩ := Q.out w6 hB6; clear hown6 hgrow6 hnil6 hlies6 hg6 hB6)
      refine (CK.out _).mono ?_
      rintro e w7 ⟨rfl, hb7⟩
      have H7 := hideP (And.intro (IR.below H6.out.1 hb7) (Below.trans H6.out.2 (hb7.mono H6.out.2.size)))
      clear hb7 k0 k1 k2 k3 k4 k5
      go_wp2
      have hI6 : IR w7 w.heap.size v6 (r + 1) (natI (pre ++ [i])) := by
        have hq := H7.out.1
        have he : natI (pre ++ [i]) = natI pre ++ [(i : Int)] := by simp [natI]
        rw [he]
        exact hq
      go_roundw
      case rel =>
        obtain ⟨g6, c6, rfl⟩ : ∃ g c, v6 = .slice (some ⟨g, 0, none⟩) (r + 1) c := by
          rcases hI6.2 with ⟨_, h⟩ | ⟨g, c, cur, h, _⟩
          · omega
          · exact ⟨g, c, h⟩
        exact ⟨i + 1 + kd.toNat, pre ++ [i], g6, c6, r + 1, congrArg _ (by omega), hkd1, HST, HN, by omega, by simp [HPR.out], rfl, hI6, H7.out.2⟩
      case measure => simp [intOf]; omega
    · have hii : ¬ (i : Int) < (n : Int) := by omega
      have HE : Hid (pre = Z) := hideP (by
        have h := HP.out
        rw [List.drop_eq_nil_of_le (by rw [HL.out]; omega), starts_nil, List.append_nil] at h
        exact h)
      have HI := hideP hI
      have HB := hideP hbel
      clear hI hbel
      go_wp2
      go_ret
      refine ⟨⟨_, rfl, ?_⟩, HB.out⟩
      rw [← HE.out, hpr]
      exact HI.out
end Go.Proofs.Ytfcfihlkckdmbaa
