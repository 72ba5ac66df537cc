/- Entries: what is known of a task and of its jobs, as plain mathematics and as cells in memory. -/
import Derived.Test.YtekgnofmldpifaaV0
namespace Go.Proofs.Ytekgnofmldpifaa
open Go.ChangeShapes Go.WideShapes Go.ChangeAt Go.RowKit Go.Deep
/-- An entry: Period and Wcet; the pending demand; the first tick; the active job (active, arrival, demand, done, cut); the tick of its last unit. -/
structure En where
  P : Int
  W : Int
  d : Int
  f : Int
  a : Bool
  r : Int
  m : Int
  n : Int
  c : Bool
  k : Int
def cel (e : En) : Nat → Value
  | 0 => .int .i64 e.P
  | 1 => .int .i64 e.W
  | 2 => .int .i64 e.d
  | 3 => .int .i64 e.f
  | 4 => .bool e.a
  | 5 => .int .i64 e.r
  | 6 => .int .i64 e.m
  | 7 => .int .i64 e.n
  | 8 => .bool e.c
  | _ => .int .i64 e.k
def isT (now : Int) : Bool := decide (0 ≤ now ∧ now ≤ 9007199254740991)
def askB (e : En) (x : Int) : Bool := decide (1 ≤ x ∧ e.d ≤ 0)
def askE (e : En) (x : Int) : En := if askB e x = true then { e with d := x } else e
def nxt (e : En) (now : Int) : Int := if isT now = true ∧ e.d ≠ 0 ∧ e.a = false then (if now < e.f then e.f else now) else -1
def staB (e : En) (now : Int) : Bool := decide (isT now = true ∧ nxt e now = now)
def stt (e : En) (now : Int) : En := ⟨e.P, e.W, 0, now + e.P, true, now, if e.d < e.W then e.d else e.W, 0, decide (e.W < e.d), -1⟩
def staE (e : En) (now : Int) : En := if staB e now = true then stt e now else e
def wrkB (e : En) (now : Int) : Bool := decide (isT now = true ∧ e.a = true ∧ e.n ≠ e.m ∧ e.k ≠ now)
def wrkE (e : En) (now : Int) : En := if wrkB e now = true then { e with n := e.n + 1, k := now } else e
def ovrE (e : En) : En := { e with a := false, r := 0, m := 0, n := 0, c := false }
def stv (e : En) : Value := .agg #[.bool e.a, .int .i64 e.r, .int .i64 e.m, .int .i64 e.n, .bool e.c]
/-- What every entry keeps. -/
structure Fit (e : En) : Prop where
  P0 : 1 ≤ e.P
  P1 : e.P ≤ 1099511627776
  W0 : 1 ≤ e.W
  W1 : e.W ≤ 1099511627776
  d0 : 0 ≤ e.d
  n0 : 0 ≤ e.n
  nm : e.n ≤ e.m
  mW : e.m ≤ e.W
theorem Fit.ask {e : En} (h : Fit e) (x : Int) : Fit (askE e x) := by
  unfold askE; split
  · rename_i hx
    unfold askB at hx
    rw [decide_eq_true_iff] at hx
    exact ⟨h.P0, h.P1, h.W0, h.W1, by show 0 ≤ x; omega, h.n0, h.nm, h.mW⟩
  · exact h
theorem Fit.sta {e : En} (h : Fit e) (x : Int) : Fit (staE e x) := by
  unfold staE; split
  · have := h.d0; have := h.W0
    refine ⟨h.P0, h.P1, h.W0, h.W1, Int.le_refl _, Int.le_refl _, ?_, ?_⟩
    · show 0 ≤ if e.d < e.W then e.d else e.W
      split <;> omega
    · show (if e.d < e.W then e.d else e.W) ≤ e.W
      split <;> omega
  · exact h
theorem Fit.wrk {e : En} (h : Fit e) (x : Int) : Fit (wrkE e x) := by
  unfold wrkE; split
  · rename_i hx
    unfold wrkB at hx
    rw [decide_eq_true_iff] at hx
    have := h.nm; have := h.n0
    exact ⟨h.P0, h.P1, h.W0, h.W1, h.d0, by show 0 ≤ e.n + 1; omega, by show e.n + 1 ≤ e.m; omega, h.mW⟩
  · exact h
theorem Fit.ovr {e : En} (h : Fit e) : Fit (ovrE e) :=
  ⟨h.P0, h.P1, h.W0, h.W1, h.d0, Int.le_refl _, Int.le_refl _, by show 0 ≤ e.W; have := h.W0; omega⟩
def upd (f : Nat → En) (k : Nat) (e : En) : Nat → En := fun j => if j = k then e else f j
theorem upd_self (f : Nat → En) (k : Nat) : upd f k (f k) = f := by
  funext j; unfold upd; split
  · rename_i h; rw [h]
  · rfl
theorem upd_upd (f : Nat → En) (k : Nat) (e e' : En) : upd (upd f k e) k e' = upd f k e' := by
  funext j; unfold upd; split <;> rfl
theorem upd_at (f : Nat → En) (k : Nat) (e : En) : upd f k e k = e := by simp [upd]
theorem upd_ne (f : Nat → En) {k j : Nat} (e : En) (h : j ≠ k) : upd f k e j = f j := by simp [upd, h]
/-- A row of n entries. -/
structure Rw (w : World) (q n : Nat) (f : Nat → En) : Prop where
  ex : ∃ cur, Blk w q cur 48 ∧ n * 10 ≤ cur.size ∧ ∀ k o, k < n → o < 10 → cur[k * 10 + o]? = some (cel (f k) o)
theorem Rw.lt {w : World} {q n : Nat} {f : Nat → En} (h : Rw w q n f) : q < w.heap.size := by
  obtain ⟨cur, h1, _⟩ := h.ex; exact h1.lt
theorem Rw.but {w w' : World} {q n : Nat} {f : Nat → En} {S : Nat → Prop} (h : Rw w q n f) (hb : But S w w') (hs : ¬ S q) : Rw w' q n f := by
  obtain ⟨cur, h1, h2⟩ := h.ex; exact ⟨cur, h1.but hb hs, h2⟩
theorem Rw.no {w w' : World} {q n : Nat} {f : Nat → En} (h : Rw w q n f) (hb : But No w w') : Rw w' q n f := h.but hb (fun x => x)
theorem Rw.at_ {w : World} {q n : Nat} {f : Nat → En} (h : Rw w q n f) {k o : Nat} (hk : k < n) (ho : o < 10) : w.cell? ⟨q, k * 10 + o, none⟩ = some (cel (f k) o) := by
  obtain ⟨cur, h1, _, h2⟩ := h.ex; exact h1.cell (h2 k o hk ho)
theorem Rw.frozen {w : World} {q n : Nat} {f : Nat → En} (h : Rw w q n f) (o : Nat) : w.frozen? ⟨q, o, none⟩ = false := by
  obtain ⟨cur, h1, _⟩ := h.ex; exact h1.frozen o
theorem Rw.set {w : World} {q n : Nat} {f : Nat → En} (h : Rw w q n f) {k o : Nat} (hk : k < n) (ho : o < 10) {e : En} {v : Value} (hv : cel e o = v) (hr : ∀ i, i < 10 → i ≠ o → cel e i = cel (f k) i) : Rw (w.setCell ⟨q, k * 10 + o, none⟩ v) q n (upd f k e) := by
  obtain ⟨cur, h1, h2, h3⟩ := h.ex
  refine ⟨_, h1.set (k * 10 + o) v, by simpa using h2, fun j i hj hi => ?_⟩
  rw [Array.getElem?_setIfInBounds]
  by_cases e1 : k * 10 + o = j * 10 + i
  · obtain ⟨rfl, rfl⟩ : k = j ∧ o = i := by omega
    rw [if_pos rfl, if_pos (by omega), upd_at, hv]
  · rw [if_neg e1, h3 j i hj hi]
    by_cases e2 : j = k
    · subst e2
      rw [upd_at, hr i hi (by omega)]
    · rw [upd_ne _ _ e2]
section
variable {w : World} {q n k : Nat} {f : Nat → En} {e : En}
theorem ten {p : Nat → Prop} (h0 : p 0) (h1 : p 1) (h2 : p 2) (h3 : p 3) (h4 : p 4) (h5 : p 5) (h6 : p 6) (h7 : p 7) (h8 : p 8) (h9 : p 9) : ∀ i, i < 10 → p i := by
  intro i hi
  rcases i with _ | _ | _ | _ | _ | _ | _ | _ | _ | _ | i
  · exact h0
  · exact h1
  · exact h2
  · exact h3
  · exact h4
  · exact h5
  · exact h6
  · exact h7
  · exact h8
  · exact h9
  · omega
theorem Rw.setU {o : Nat} {v : Value} {e' : En} (h : Rw w q n (upd f k e)) (hk : k < n) (ho : o < 10) (hv : cel e' o = v) (hr : ∀ i, i < 10 → i ≠ o → cel e' i = cel e i) : Rw (w.setCell ⟨q, k * 10 + o, none⟩ v) q n (upd f k e') := by
  have := h.set hk ho hv (fun i hi hn => by rw [upd_at]; exact hr i hi hn)
  rw [upd_upd] at this; exact this
theorem Rw.setD (h : Rw w q n (upd f k e)) (hk : k < n) (x : Int) : Rw (w.setCell ⟨q, k * 10 + 2, none⟩ (.int .i64 x)) q n (upd f k { e with d := x }) :=
  h.setU hk (by omega) rfl (ten (fun _ => rfl) (fun _ => rfl) (fun h => absurd rfl h) (fun _ => rfl) (fun _ => rfl) (fun _ => rfl) (fun _ => rfl) (fun _ => rfl) (fun _ => rfl) (fun _ => rfl))
theorem Rw.setF (h : Rw w q n (upd f k e)) (hk : k < n) (x : Int) : Rw (w.setCell ⟨q, k * 10 + 3, none⟩ (.int .i64 x)) q n (upd f k { e with f := x }) :=
  h.setU hk (by omega) rfl (ten (fun _ => rfl) (fun _ => rfl) (fun _ => rfl) (fun h => absurd rfl h) (fun _ => rfl) (fun _ => rfl) (fun _ => rfl) (fun _ => rfl) (fun _ => rfl) (fun _ => rfl))
theorem Rw.setA (h : Rw w q n (upd f k e)) (hk : k < n) (x : Bool) : Rw (w.setCell ⟨q, k * 10 + 4, none⟩ (.bool x)) q n (upd f k { e with a := x }) :=
  h.setU hk (by omega) rfl (ten (fun _ => rfl) (fun _ => rfl) (fun _ => rfl) (fun _ => rfl) (fun h => absurd rfl h) (fun _ => rfl) (fun _ => rfl) (fun _ => rfl) (fun _ => rfl) (fun _ => rfl))
theorem Rw.setR (h : Rw w q n (upd f k e)) (hk : k < n) (x : Int) : Rw (w.setCell ⟨q, k * 10 + 5, none⟩ (.int .i64 x)) q n (upd f k { e with r := x }) :=
  h.setU hk (by omega) rfl (ten (fun _ => rfl) (fun _ => rfl) (fun _ => rfl) (fun _ => rfl) (fun _ => rfl) (fun h => absurd rfl h) (fun _ => rfl) (fun _ => rfl) (fun _ => rfl) (fun _ => rfl))
theorem Rw.setM (h : Rw w q n (upd f k e)) (hk : k < n) (x : Int) : Rw (w.setCell ⟨q, k * 10 + 6, none⟩ (.int .i64 x)) q n (upd f k { e with m := x }) :=
  h.setU hk (by omega) rfl (ten (fun _ => rfl) (fun _ => rfl) (fun _ => rfl) (fun _ => rfl) (fun _ => rfl) (fun _ => rfl) (fun h => absurd rfl h) (fun _ => rfl) (fun _ => rfl) (fun _ => rfl))
theorem Rw.setN (h : Rw w q n (upd f k e)) (hk : k < n) (x : Int) : Rw (w.setCell ⟨q, k * 10 + 7, none⟩ (.int .i64 x)) q n (upd f k { e with n := x }) :=
  h.setU hk (by omega) rfl (ten (fun _ => rfl) (fun _ => rfl) (fun _ => rfl) (fun _ => rfl) (fun _ => rfl) (fun _ => rfl) (fun _ => rfl) (fun h => absurd rfl h) (fun _ => rfl) (fun _ => rfl))
theorem Rw.setC (h : Rw w q n (upd f k e)) (hk : k < n) (x : Bool) : Rw (w.setCell ⟨q, k * 10 + 8, none⟩ (.bool x)) q n (upd f k { e with c := x }) :=
  h.setU hk (by omega) rfl (ten (fun _ => rfl) (fun _ => rfl) (fun _ => rfl) (fun _ => rfl) (fun _ => rfl) (fun _ => rfl) (fun _ => rfl) (fun _ => rfl) (fun h => absurd rfl h) (fun _ => rfl))
theorem Rw.setK (h : Rw w q n (upd f k e)) (hk : k < n) (x : Int) : Rw (w.setCell ⟨q, k * 10 + 9, none⟩ (.int .i64 x)) q n (upd f k { e with k := x }) :=
  h.setU hk (by omega) rfl (ten (fun _ => rfl) (fun _ => rfl) (fun _ => rfl) (fun _ => rfl) (fun _ => rfl) (fun _ => rfl) (fun _ => rfl) (fun _ => rfl) (fun _ => rfl) (fun h => absurd rfl h))
/-- The five cells of a job's state, one after the other. -/
theorem Rw.setS (h : Rw w q n (upd f k e)) (hk : k < n) (a : Bool) (r m x : Int) (c : Bool) :
    Rw (((((w.setCell ⟨q, k * 10 + 4, none⟩ (.bool a)).setCell ⟨q, k * 10 + 5, none⟩ (.int .i64 r)).setCell ⟨q, k * 10 + 6, none⟩ (.int .i64 m)).setCell ⟨q, k * 10 + 7, none⟩ (.int .i64 x)).setCell ⟨q, k * 10 + 8, none⟩ (.bool c)) q n (upd f k ⟨e.P, e.W, e.d, e.f, a, r, m, x, c, e.k⟩) :=
  ((((h.setA hk a).setR hk r).setM hk m).setN hk x).setC hk c
end
/-- At p there is a book of n entries; its blocks are S. -/
structure JP (w : World) (S : Nat → Prop) (p n : Nat) (f : Nat → En) : Prop where
  ex : ∃ q c, p ≠ q ∧ Blk w p #[.slice (some ⟨q, 0, none⟩) n c] 50 ∧ Rw w q n f ∧ n ≤ c ∧ ∀ k, S k ↔ k = p ∨ k = q
  n24 : n ≤ 24
  fit : ∀ k, k < n → Fit (f k)
theorem JP.but {w w' : World} {S S' : Nat → Prop} {p n : Nat} {f : Nat → En} (h : JP w S p n f) (hb : But S' w w') (hs : ∀ k, S k → ¬ S' k) : JP w' S p n f := by
  obtain ⟨q, c, h1, h2, h3, h4, h5⟩ := h.ex
  exact ⟨⟨q, c, h1, h2.but hb (hs _ ((h5 _).2 (.inl rfl))), h3.but hb (hs _ ((h5 _).2 (.inr rfl))), h4, h5⟩, h.n24, h.fit⟩
theorem JP.no {w w' : World} {S : Nat → Prop} {p n : Nat} {f : Nat → En} (h : JP w S p n f) (hb : But No w w') : JP w' S p n f := h.but hb (fun _ _ x => x)
theorem JP.lt {w : World} {S : Nat → Prop} {p n : Nat} {f : Nat → En} (h : JP w S p n f) : ∀ k, S k → k < w.heap.size := by
  obtain ⟨q, c, h1, h2, h3, h4, h5⟩ := h.ex
  intro k hk
  rcases (h5 k).1 hk with rfl | rfl
  · exact h2.lt
  · exact h3.lt
def Mv (w : World) (S : Nat → Prop) (p n : Nat) (f : Nat → En) (w' : World) : Prop := JP w' S p n f ∧ But S w w'
theorem JP.stay {w w' : World} {S : Nat → Prop} {p n : Nat} {f : Nat → En} (h : JP w S p n f) (hb : But No w w') : Mv w S p n f w' := ⟨h.no hb, hb.no⟩
end Go.Proofs.Ytekgnofmldpifaa
