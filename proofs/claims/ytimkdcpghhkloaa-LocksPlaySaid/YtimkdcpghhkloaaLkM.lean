/- Plain mathematics of locks: queues of tasks, by resource; no task is in two places. -/
import Derived.Test.YtimkdcpghhkloaaBase
namespace Go.Proofs.Ytimkdcpghhkloaa.lok
structure LK (n : Nat) (q : Nat → List Int) : Prop where
  tk : ∀ r t, t ∈ q r → 0 ≤ t ∧ t < 24
  nd : ∀ r, (q r).Pairwise (· ≠ ·)
  one : ∀ r s t, t ∈ q r → t ∈ q s → r = s
  out : ∀ r, n ≤ r → q r = []
theorem LK.lt {n : Nat} {q : Nat → List Int} (h : LK n q) {r : Nat} {t : Int} (ht : t ∈ q r) : r < n := by
  by_cases e : r < n
  · exact e
  · rw [h.out r (by omega)] at ht; cases ht
theorem few {l : List Int} (hd : l.Pairwise (· ≠ ·)) (hk : ∀ t ∈ l, 0 ≤ t ∧ t < 24) : l.length ≤ 24 := by
  have hn : (l.map (fun t => t.toNat)).Nodup := by
    rw [List.nodup_iff_pairwise_ne, List.pairwise_map]
    refine hd.imp_of_mem fun {a b} ha hb hne e => hne ?_
    have := hk a ha; have := hk b hb; omega
  have hs : (l.map (fun t => t.toNat)) ⊆ List.range 24 := by
    intro k hk'
    obtain ⟨e, he, rfl⟩ := List.mem_map.1 hk'
    have k := hk e he
    rw [List.mem_range]; omega
  have := List.Nodup.length_le_of_subset hn hs
  simpa using this
theorem LK.len {n : Nat} {q : Nat → List Int} (h : LK n q) (r : Nat) : (q r).length ≤ 24 := few (h.nd r) (h.tk r)
theorem LK.room {n : Nat} {q : Nat → List Int} (h : LK n q) {r : Nat} {t : Int} (h0 : 0 ≤ t) (h1 : t < 24) (ht : t ∉ q r) : (q r).length < 24 := by
  have := few (l := t :: q r) (List.pairwise_cons.2 ⟨fun a ha e => ht (e ▸ ha), h.nd r⟩) (fun a ha => by
    rcases List.mem_cons.1 ha with rfl | ha
    · exact ⟨h0, h1⟩
    · exact h.tk r a ha)
  simp only [List.length_cons] at this
  omega
def wantN (n : Nat) (q : Nat → List Int) (t : Int) : Option Nat := (List.range n).find? (fun r => (q r).contains t)
/-- The resource that a task asked for; -1: none. -/
def wantV (n : Nat) (q : Nat → List Int) (t : Int) : Int := match wantN n q t with | some r => r | none => -1
theorem want_any (n : Nat) (q : Nat → List Int) (t : Int) : (∃ r : Nat, wantV n q t = r ∧ t ∈ q r ∧ r < n) ∨ (wantV n q t = -1 ∧ ∀ r, r < n → t ∉ q r) := by
  cases e : wantN n q t with
  | some r =>
    left
    have h1 := List.find?_some e
    have h2 := List.mem_of_find?_eq_some e
    exact ⟨r, by unfold wantV; rw [e], by simpa using h1, List.mem_range.1 h2⟩
  | none =>
    right
    refine ⟨by unfold wantV; rw [e], fun r hr => ?_⟩
    unfold wantN at e
    rw [List.find?_eq_none] at e
    simpa using e r (List.mem_range.2 hr)
theorem want_cases {n : Nat} {q : Nat → List Int} (h : LK n q) (t : Int) : (∃ r : Nat, wantV n q t = r ∧ t ∈ q r ∧ r < n) ∨ (wantV n q t = -1 ∧ ∀ r, t ∉ q r) := by
  rcases want_any n q t with h1 | ⟨h1, h2⟩
  · exact .inl h1
  · exact .inr ⟨h1, fun r hr => h2 r (h.lt hr) hr⟩
theorem want_in {n : Nat} {q : Nat → List Int} (h : LK n q) {r : Nat} {t : Int} (ht : t ∈ q r) : wantV n q t = r := by
  rcases want_cases h t with ⟨s, h1, h2, _⟩ | ⟨_, h2⟩
  · rw [h1, h.one s r t h2 ht]
  · exact absurd ht (h2 r)
theorem want_out {n : Nat} {q : Nat → List Int} (h : LK n q) {t : Int} (ht : ∀ r, t ∉ q r) : wantV n q t = -1 := by
  rcases want_cases h t with ⟨s, h1, h2, _⟩ | ⟨h1, _⟩
  · exact absurd h2 (ht s)
  · exact h1
def resB (n : Nat) (res : Int) : Bool := decide (0 ≤ res ∧ res < n)
def taskB (t : Int) : Bool := decide (0 ≤ t ∧ t < 24)
theorem resB_iff {n : Nat} {res : Int} : resB n res = true ↔ 0 ≤ res ∧ res < n := by unfold resB; simp
theorem taskB_iff {t : Int} : taskB t = true ↔ 0 ≤ t ∧ t < 24 := by unfold taskB; simp
theorem resB_nat {n r : Nat} (h : r < n) : resB n (r : Int) = true := by rw [resB_iff]; omega
theorem resB_not {n : Nat} {res : Int} : resB n res = false ↔ res < 0 ∨ n ≤ res := by unfold resB; simp; omega
theorem taskB_not {t : Int} : taskB t = false ↔ t < 0 ∨ 24 ≤ t := by unfold taskB; simp; omega
/-- The queue of a resource, be there one or not. -/
def qi (n : Nat) (q : Nat → List Int) (res : Int) : List Int := if resB n res = true then q res.toNat else []
theorem qi_nat {n r : Nat} {q : Nat → List Int} (h : r < n) : qi n q (r : Int) = q r := by unfold qi; rw [if_pos (resB_nat h)]; rfl
theorem qi_out {n : Nat} {q : Nat → List Int} {res : Int} (h : resB n res = false) : qi n q res = [] := by unfold qi; rw [h]; rfl
theorem qi_in {n : Nat} {q : Nat → List Int} {res : Int} (h : resB n res = true) : qi n q res = q res.toNat := by unfold qi; rw [if_pos h]
def hd (l : List Int) : Int := match l with | [] => -1 | x :: _ => x
def holdV (n : Nat) (q : Nat → List Int) (res : Int) : Int := hd (qi n q res)
def hasV (n : Nat) (q : Nat → List Int) (t : Int) : Bool := decide (0 ≤ wantV n q t) && decide (holdV n q (wantV n q t) = t)
def upd (q : Nat → List Int) (r : Nat) (l : List Int) : Nat → List Int := fun k => if k = r then l else q k
theorem upd_same (q : Nat → List Int) (r : Nat) (l : List Int) : upd q r l r = l := by unfold upd; rw [if_pos rfl]
theorem upd_other (q : Nat → List Int) {r k : Nat} (l : List Int) (h : k ≠ r) : upd q r l k = q k := by unfold upd; rw [if_neg h]
def askE (n : Nat) (q : Nat → List Int) (res t : Int) : Int := if resB n res = false ∨ taskB t = false then 1 else if 0 ≤ wantV n q t then 4 else 0
def askA (n : Nat) (q : Nat → List Int) (res t : Int) : Int := if askE n q res t = 0 then (q res.toNat).length else 0
def askQ (n : Nat) (q : Nat → List Int) (res t : Int) : Nat → List Int := if askE n q res t = 0 then upd q res.toNat (q res.toNat ++ [t]) else q
def freE (n : Nat) (q : Nat → List Int) (t : Int) : Int := if hasV n q t = true then 0 else 5
def freA (n : Nat) (q : Nat → List Int) (t : Int) : Int := if hasV n q t = true then hd (q (wantV n q t).toNat).tail else 0
def freQ (n : Nat) (q : Nat → List Int) (t : Int) : Nat → List Int := if hasV n q t = true then upd q (wantV n q t).toNat (q (wantV n q t).toNat).tail else q
theorem has_cases {n : Nat} {q : Nat → List Int} (h : LK n q) (t : Int) : (∃ (r : Nat) (l : List Int), r < n ∧ q r = t :: l ∧ wantV n q t = r ∧ hasV n q t = true ∧ holdV n q r = t) ∨
    (hasV n q t = false ∧ ((wantV n q t = -1 ∧ ∀ r, t ∉ q r) ∨ ∃ (r : Nat) (x : Int) (l : List Int), r < n ∧ q r = x :: l ∧ x ≠ t ∧ t ∈ l ∧ wantV n q t = r ∧ holdV n q r = x)) := by
  rcases want_cases h t with ⟨r, h1, h2, h3⟩ | ⟨h1, h2⟩
  · have e : holdV n q r = hd (q r) := by unfold holdV; rw [qi_nat h3]
    cases hq : q r with
    | nil => rw [hq] at h2; cases h2
    | cons x l =>
      rw [hq] at e h2
      by_cases hx : x = t
      · subst hx
        refine .inl ⟨r, l, h3, hq, h1, ?_, e⟩
        unfold hasV; rw [h1, e]; simp [hd]
      · refine .inr ⟨?_, .inr ⟨r, x, l, h3, hq, hx, ?_, h1, e⟩⟩
        · unfold hasV; rw [h1, e]; simp [hd, hx]
        · rcases List.mem_cons.1 h2 with e' | e'
          · exact absurd e'.symm hx
          · exact e'
  · exact .inr ⟨by unfold hasV; rw [h1]; rfl, .inl ⟨h1, h2⟩⟩
theorem ask_cases (n : Nat) (q : Nat → List Int) (res t : Int) : (resB n res = false ∨ taskB t = false) ∧ askE n q res t = 1 ∨
    resB n res = true ∧ taskB t = true ∧ 0 ≤ wantV n q t ∧ askE n q res t = 4 ∨ resB n res = true ∧ taskB t = true ∧ ¬ 0 ≤ wantV n q t ∧ askE n q res t = 0 := by
  unfold askE
  by_cases h : resB n res = false ∨ taskB t = false
  · exact .inl ⟨h, if_pos h⟩
  · have h1 : resB n res = true := by cases e : resB n res with | true => rfl | false => exact absurd (.inl e) h
    have h2 : taskB t = true := by cases e : taskB t with | true => rfl | false => exact absurd (.inr e) h
    rw [if_neg h]
    by_cases hw : 0 ≤ wantV n q t
    · exact .inr (.inl ⟨h1, h2, hw, if_pos hw⟩)
    · exact .inr (.inr ⟨h1, h2, hw, if_neg hw⟩)
theorem LK.ask {n : Nat} {q : Nat → List Int} (h : LK n q) (res t : Int) : LK n (askQ n q res t) := by
  unfold askQ
  rcases ask_cases n q res t with ⟨_, e⟩ | ⟨_, _, _, e⟩ | ⟨h1, h2, h3, e⟩
  · rw [e]; exact h
  · rw [e]; exact h
  · rw [e, if_pos rfl]
    rw [resB_iff] at h1
    rw [taskB_iff] at h2
    have hno : ∀ r, t ∉ q r := by
      rcases want_cases h t with ⟨s, k, _⟩ | ⟨_, k⟩
      · omega
      · exact k
    have hm : ∀ r a, a ∈ upd q res.toNat (q res.toNat ++ [t]) r → a ∈ q r ∨ a = t ∧ r = res.toNat := by
      intro r a ha
      by_cases er : r = res.toNat
      · subst er
        rw [upd_same] at ha
        rcases List.mem_append.1 ha with k | k
        · exact .inl k
        · exact .inr ⟨by simpa using k, rfl⟩
      · rw [upd_other _ _ er] at ha; exact .inl ha
    refine ⟨fun r a ha => ?_, fun r => ?_, fun r s a ha hb => ?_, fun r hr => ?_⟩
    · rcases hm r a ha with k | ⟨rfl, _⟩
      · exact h.tk r a k
      · exact h2
    · by_cases er : r = res.toNat
      · subst er
        rw [upd_same, List.pairwise_append]
        exact ⟨h.nd _, by simp, fun a ha b hb => by rw [List.mem_singleton.1 hb]; exact fun e => hno _ (e ▸ ha)⟩
      · rw [upd_other _ _ er]; exact h.nd r
    · rcases hm r a ha with k | ⟨k, e1⟩ <;> rcases hm s a hb with k' | ⟨k', e2⟩
      · exact h.one r s a k k'
      · exact absurd (k' ▸ k) (hno r)
      · exact absurd (k ▸ k') (hno s)
      · rw [e1, e2]
    · rw [upd_other _ _ (by omega)]; exact h.out r hr
theorem LK.free {n : Nat} {q : Nat → List Int} (h : LK n q) (t : Int) : LK n (freQ n q t) := by
  unfold freQ
  split
  · have hm : ∀ r a, a ∈ upd q (wantV n q t).toNat (q (wantV n q t).toNat).tail r → a ∈ q r := by
      intro r a ha
      by_cases er : r = (wantV n q t).toNat
      · subst er; rw [upd_same] at ha; exact List.mem_of_mem_tail ha
      · rw [upd_other _ _ er] at ha; exact ha
    refine ⟨fun r a ha => h.tk r a (hm r a ha), fun r => ?_, fun r s a ha hb => h.one r s a (hm r a ha) (hm s a hb), fun r hr => ?_⟩
    · by_cases er : r = (wantV n q t).toNat
      · subst er; rw [upd_same]; exact (h.nd _).sublist (List.tail_sublist _)
      · rw [upd_other _ _ er]; exact h.nd r
    · by_cases er : r = (wantV n q t).toNat
      · rw [← er, h.out r hr, er, upd_same]; rfl
      · rw [upd_other _ _ er]; exact h.out r hr
  · exact h
theorem LK.none (n : Nat) : LK n (fun _ => []) := ⟨fun _ _ h => absurd h (by simp), fun _ => List.Pairwise.nil, fun _ _ _ h => absurd h (by simp), fun _ _ => rfl⟩
theorem askE_small (n : Nat) (q : Nat → List Int) (res t : Int) : 0 ≤ askE n q res t ∧ askE n q res t ≤ 4 := by
  rcases ask_cases n q res t with ⟨_, e⟩ | ⟨_, _, _, e⟩ | ⟨_, _, _, e⟩ <;> rw [e] <;> decide
theorem freE_small (n : Nat) (q : Nat → List Int) (t : Int) : freE n q t = 0 ∨ freE n q t = 5 := by
  unfold freE; split <;> simp
end Go.Proofs.Ytimkdcpghhkloaa.lok
