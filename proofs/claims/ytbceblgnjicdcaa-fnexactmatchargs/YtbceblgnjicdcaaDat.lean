/-
  Tokens as data: bodies and patterns that can be, told by a run over the list.
-/
import Derived.Test.YtbceblgnjicdcaaMeanB
namespace Go.Proofs.Ytbceblgnjicdcaa
open Go.RowKit
set_option linter.unusedVariables false
set_option linter.unusedSimpArgs false

/-- What a token does to the groups that are open. -/
def dl (t : Tk) : Int := if t.c = 1 then 1 else if t.c = 2 then -1 else 0

/-- A token that can be, no slot above most. -/
def okT (most : Int) (t : Tk) : Bool := tokB t.c t.h t.s && !(decide (t.c = 16) && decide (most < t.h))

def tkStep (most : Int) (o : Option Int) (t : Tk) : Option Int := match o with
  | none => none
  | some o => if okT most t = false then none else if o + dl t < 0 then none else some (o + dl t)

def balStep (o : Option Int) (t : Tk) : Option Int := match o with
  | none => none
  | some o => if o + dl t < 0 then none else some (o + dl t)

/-- No brace, no param; slots are counted. -/
def patStep (o : Option Int) (t : Tk) : Option Int := match o with
  | none => none
  | some o => if t.c = 1 ∨ t.c = 2 ∨ t.c = 7 then none else if t.c = 16 then (if t.h = o + 1 then some (o + 1) else none) else some o

def patTStep (o : Option Int) (t : Tk) : Option Int := match o with
  | none => none
  | some o => if tokB t.c t.h t.s = false then none else patStep (some o) t

def toksB (ts : List Tk) (limit most : Int) : Bool := decide ((ts.length : Int) ≤ limit) && decide (ts.foldl (tkStep most) (some 0) = some 0)
def patB (ts : List Tk) (sl : Int) : Bool := decide ((ts.length : Int) ≤ 100) && decide (ts.foldl patTStep (some 0) = some sl)
def macB (p : List Tk) (sl : Int) (b : List Tk) : Bool := decide (0 ≤ sl ∧ sl ≤ 9) && (patB p sl && toksB b 2000 sl)
def noTok (t : Tk) : Bool := decide (t.c = 0) && (decide (t.h = 0) && t.s.toList.isEmpty)
def noMac (p : List Tk) (sl : Int) (b : List Tk) : Bool := decide (p.length + b.length = 0) && decide (sl = 0)
def isCh (t : Tk) : Bool := tokB t.c t.h t.s && decide (t.c ≠ 0 ∧ t.c ≠ 16)
def meanB (k n : Int) (t : Tk) (p : List Tk) (sl : Int) (b : List Tk) : Bool :=
  if k = 0 then decide (n = 0) && (noTok t && noMac p sl b)
  else if k = 1 then decide (1 ≤ n ∧ n ≤ 58) && (noTok t && noMac p sl b)
  else if k = 2 then decide (n = 0) && (isCh t && noMac p sl b)
  else if k = 3 then decide (n = 0) && (noTok t && macB p sl b)
  else false

theorem fold_none (f : Option Int → Tk → Option Int) (hf : ∀ t, f none t = none) (l : List Tk) : l.foldl f none = none := by
  induction l with
  | nil => rfl
  | cons t r ih => rw [List.foldl_cons, hf]; exact ih
theorem fold_take (f : Option Int → Tk → Option Int) (a : Option Int) {ts : List Tk} {k : Nat} (h : k < ts.length) : (ts.take (k + 1)).foldl f a = f ((ts.take k).foldl f a) (ts.getD k Tk.none) := by
  rw [List.take_succ_eq_append_getElem h, List.foldl_append]
  simp [List.getD, List.getElem?_eq_getElem h]
theorem fold_dead (f : Option Int → Tk → Option Int) (hf : ∀ t, f none t = none) (a : Option Int) {ts : List Tk} {k : Nat} (h : k < ts.length) {x : Option Int} (hx : (ts.take k).foldl f a = x) (hd : f x (ts.getD k Tk.none) = none) : ts.foldl f a = none := by
  have h2 := fold_take f a h
  rw [hx, hd] at h2
  have h3 : ts.foldl f a = (ts.drop (k + 1)).foldl f ((ts.take (k + 1)).foldl f a) := by rw [← List.foldl_append, List.take_append_drop]
  rw [h3, h2, fold_none f hf]

theorem okT_all {most : Int} (ts : List Tk) (o : Int) (h : ∀ t, t ∈ ts → okT most t = true) : ts.foldl (tkStep most) (some o) = ts.foldl balStep (some o) := by
  induction ts generalizing o with
  | nil => rfl
  | cons t r ih =>
    have ht := h t (by simp)
    have e : tkStep most (some o) t = balStep (some o) t := by simp [tkStep, balStep, ht]
    rw [List.foldl_cons, List.foldl_cons, e]
    cases hb : balStep (some o) t with
    | none => rw [fold_none _ (fun _ => rfl), fold_none _ (fun _ => rfl)]
    | some o2 => exact ih o2 (fun x hx => h x (by simp [hx]))
theorem okT_some {most : Int} (ts : List Tk) (o m : Int) (h : ts.foldl (tkStep most) (some o) = some m) : ∀ t, t ∈ ts → okT most t = true := by
  induction ts generalizing o with
  | nil => intro t ht; simp at ht
  | cons t r ih =>
    rw [List.foldl_cons] at h
    cases hb : tkStep most (some o) t with
    | none => rw [hb, fold_none _ (fun _ => rfl)] at h; cases h
    | some o2 =>
      rw [hb] at h
      have ht : okT most t = true := by
        unfold tkStep at hb
        cases hk : okT most t with
        | true => rfl
        | false => simp [hk] at hb
      intro x hx
      rcases List.mem_cons.1 hx with rfl | hx
      · exact ht
      · exact ih o2 h x hx

/-- A body by the two looks of the program: all tokens, then the groups. -/
theorem toksB_two (ts : List Tk) (limit most : Int) : toksB ts limit most = ((decide ((ts.length : Int) ≤ limit) && ts.all (okT most)) && decide (ts.foldl balStep (some 0) = some 0)) := by
  unfold toksB
  by_cases hl : (ts.length : Int) ≤ limit
  · cases ha : ts.all (okT most) with
    | true =>
      rw [okT_all ts 0 (List.all_eq_true.1 ha)]
      simp [hl]
    | false =>
      have : ts.foldl (tkStep most) (some 0) ≠ some 0 := by
        intro h
        rw [List.all_eq_true.2 (okT_some ts 0 0 h)] at ha
        cases ha
      simp [this]
  · simp [hl]

theorem pat_all (ts : List Tk) (o : Int) (h : ∀ t, t ∈ ts → tokB t.c t.h t.s = true) : ts.foldl patTStep (some o) = ts.foldl patStep (some o) := by
  induction ts generalizing o with
  | nil => rfl
  | cons t r ih =>
    have ht := h t (by simp)
    have e : patTStep (some o) t = patStep (some o) t := by simp [patTStep, ht]
    rw [List.foldl_cons, List.foldl_cons, e]
    cases hb : patStep (some o) t with
    | none => rw [fold_none _ (fun _ => rfl), fold_none _ (fun _ => rfl)]
    | some o2 => exact ih o2 (fun x hx => h x (by simp [hx]))
theorem patStep_up {o o2 : Int} {t : Tk} (h : patStep (some o) t = some o2) : o ≤ o2 ∧ (t.c = 16 → t.h ≤ o2) := by
  unfold patStep at h; dsimp only at h
  by_cases h1 : t.c = 1 ∨ t.c = 2 ∨ t.c = 7
  · rw [if_pos h1] at h; cases h
  · rw [if_neg h1] at h
    by_cases h2 : t.c = 16
    · rw [if_pos h2] at h
      by_cases h3 : t.h = o + 1
      · rw [if_pos h3] at h; simp at h; exact ⟨by omega, fun _ => by omega⟩
      · rw [if_neg h3] at h; cases h
    · rw [if_neg h2] at h; simp at h; exact ⟨by omega, fun h => absurd h h2⟩
theorem pat_some (ts : List Tk) (o m : Int) (h : ts.foldl patTStep (some o) = some m) : o ≤ m ∧ ∀ t, t ∈ ts → okT m t = true := by
  induction ts generalizing o with
  | nil => simp at h; subst h; exact ⟨Int.le_refl _, fun t ht => by simp at ht⟩
  | cons t r ih =>
    rw [List.foldl_cons] at h
    cases hb : patTStep (some o) t with
    | none => rw [hb, fold_none _ (fun _ => rfl)] at h; cases h
    | some o2 =>
      rw [hb] at h
      obtain ⟨hm, hr⟩ := ih o2 h
      cases hk : tokB t.c t.h t.s with
      | false => unfold patTStep at hb; simp [hk] at hb
      | true =>
        have hb2 : patStep (some o) t = some o2 := by unfold patTStep at hb; simpa [hk] using hb
        obtain ⟨h1, h2⟩ := patStep_up hb2
        refine ⟨by omega, fun x hx => ?_⟩
        rcases List.mem_cons.1 hx with rfl | hx
        · unfold okT
          rw [hk]
          by_cases h16 : x.c = 16
          · have := h2 h16
            have hn : ¬ m < x.h := by omega
            simp [hn]
          · simp [h16]
        · exact hr x hx

/-- A pattern by the two looks of the program. -/
theorem patB_two (ts : List Tk) (sl : Int) : patB ts sl = ((decide ((ts.length : Int) ≤ 100) && ts.all (okT sl)) && decide (ts.foldl patStep (some 0) = some sl)) := by
  unfold patB
  by_cases hl : (ts.length : Int) ≤ 100
  · cases ha : ts.all (okT sl) with
    | true =>
      rw [pat_all ts 0 (fun t ht => by have := List.all_eq_true.1 ha t ht; unfold okT at this; simp at this; exact this.1)]
      simp [hl]
    | false =>
      have : ts.foldl patTStep (some 0) ≠ some sl := by
        intro h
        rw [List.all_eq_true.2 (pat_some ts 0 sl h).2] at ha
        cases ha
      simp [this]
  · simp [hl]
end Go.Proofs.Ytbceblgnjicdcaa
