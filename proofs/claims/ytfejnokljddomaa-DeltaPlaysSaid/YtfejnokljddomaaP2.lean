/- Add. -/
import Derived.Test.YtfejnokljddomaaP
namespace Go.Proofs.Ytfejnokljddomaa
open Go.ChangeShapes Go.WideShapes Go.ChangeAt Go.RowKit Go.Deep
theorem insert_cn (p : Nat) (R : Int) (h : Nat) (P B : List Nd) (x : Nd) (w : World) (a g : Int) (c : At w p R (P ++ B).length h P B x) (ok : Ok 0 (P ++ B)) (hl : (P ++ B).length ≤ 256) (h0 : 0 ≤ g) (hg : ∀ y C, B = y :: C → g ≤ y.gap) :
    Calls Try.prog 25 #[.pointer (some ⟨p, 0, none⟩), .pointer (some ⟨x.b, 0, none⟩), .int .i64 a, .int .i64 g] w fun r w' => r = .returned (.tuple #[]) ∧ Cn w' p R (P ++ ⟨w.heap.size, a, g⟩ :: bump (-g) B).length h (P ++ ⟨w.heap.size, a, g⟩ :: bump (-g) B) ∧ But (Own p h (P ++ B)) w w' ∧ w.heap.size < w'.heap.size := by
  have hs := Ok.split ok
  have e : (P ++ ⟨w.heap.size, a, g⟩ :: bump (-g) B).length = (P ++ B).length + 1 := by
    cases B <;> simp [bump] <;> omega
  rw [e]
  cases B with
  | nil => exact insert_end p R _ h P x w a g c (by omega)
  | cons y C =>
    refine insert_mid p R _ h P C x y w a g c (by omega) h0 (hg y C rfl) ?_
    have h1 := hs.2.2.2.lo
    have h2 := hs.1
    omega
theorem drewN_but {w w' : World} (h : ∃ m, w' = w.drewN m) : But No w w' := by obtain ⟨m, rfl⟩ := h; exact (But.refl No w).drewN m
theorem add_arg (p : Nat) (R : Int) (L : List Tm) (S : Nat → Prop) (w : World) (a n : Int) (d : DP w S p R L) (hn : n < 1 ∨ 9007199254740991 < n) :
    Calls Try.prog 11 #[.pointer (some ⟨p, 0, none⟩), .int .i64 a, .int .i64 n] w fun r w' => r = .returned (.int .i64 1) ∧ w' = w := by
  clear d
  rcases hn with h | h
  · have b1 : decide (n < 1) = true := by simp; omega
    go_enter Try.func11, Try.ntmps11
    go_wp2
    go_ret
    exact ⟨rfl, rfl⟩
  · have b1 : decide (n < 1) = false := by simp; omega
    have b2 : decide ((9007199254740991 : Int) < n) = true := by simp; omega
    go_enter Try.func11, Try.ntmps11
    go_wp2
    go_ret
    exact ⟨rfl, rfl⟩
theorem add_exists (p : Nat) (R : Int) (L : List Tm) (S : Nat → Prop) (w : World) (a n : Int) (d : DP w S p R L) (h1 : 1 ≤ n) (h2 : n ≤ 9007199254740991) (hh : hasT L a = true) :
    Calls Try.prog 11 #[.pointer (some ⟨p, 0, none⟩), .int .i64 a, .int .i64 n] w fun r w' => r = .returned (.int .i64 4) ∧ w' = w := by
  rcases d.find a with ⟨hh', _⟩ | ⟨_, h, P, C, x, y, F⟩
  · rw [hh] at hh'; cases hh'
  · have CF := Lib.hid F.calls
    have b1 : decide (n < 1) = false := by simp; omega
    have b2 : decide ((9007199254740991 : Int) < n) = false := by simp; omega
    generalize lft L a = v at CF
    generalize x.b = xb at CF
    clear d F hh
    go_enter Try.func11, Try.ntmps11
    go_wp2_with (go_at_call 23; refine CF.out.mono ?_; rintro e w2 ⟨rfl, rfl⟩)
    go_ret
    exact ⟨rfl, rfl⟩
theorem add_full (p : Nat) (R : Int) (L : List Tm) (S : Nat → Prop) (w : World) (a n : Int) (d : DP w S p R L) (h1 : 1 ≤ n) (h2 : n ≤ 9007199254740991) (hh : hasT L a = false) (hf : R ≤ L.length) :
    Calls Try.prog 11 #[.pointer (some ⟨p, 0, none⟩), .int .i64 a, .int .i64 n] w fun r w' => r = .returned (.int .i64 3) ∧ ∃ m, w' = w.drewN m := by
  rcases d.find a with ⟨_, CF⟩ | ⟨hh', _⟩
  · have CF := Lib.hid CF
    obtain ⟨h, N, c, e, ho⟩ := d.ex
    have c0 : w.cell? ⟨p, 0, none⟩ = some (.int .i64 R) := c.hp.cell (o := 0) rfl
    have c1 : w.cell? ⟨p, 1, none⟩ = some (.int .i64 N.length) := c.hp.cell (o := 1) rfl
    rw [← e, acc_length] at hf
    have b1 : decide (n < 1) = false := by simp; omega
    have b2 : decide ((9007199254740991 : Int) < n) = false := by simp; omega
    have b3 : decide (R ≤ (N.length : Int)) = true := by simpa using hf
    generalize N.length = m at c1 b3 hf
    clear d c e ho hh
    go_enter Try.func11, Try.ntmps11
    go_wp2_with (go_at_call 23; refine CF.out.mono ?_; rintro e w2 ⟨rfl, rfl⟩)
    go_quiet (fail)
    go_wp2
    go_ret
    exact ⟨rfl, _, rfl⟩
  · rw [hh] at hh'; cases hh'
set_option maxHeartbeats 1000000 in
theorem add_ok (p : Nat) (R : Int) (L : List Tm) (S : Nat → Prop) (w : World) (a n : Int) (d : DP w S p R L) (h1 : 1 ≤ n) (h2 : n ≤ 9007199254740991) (hh : hasT L a = false) (hf : (L.length : Int) < R) :
    Calls Try.prog 11 #[.pointer (some ⟨p, 0, none⟩), .int .i64 a, .int .i64 n] w fun r w' => r = .returned (.int .i64 0) ∧ Mv w S p R (ins ⟨a, n⟩ L) w' := by
  rcases d.find a with ⟨_, CF⟩ | ⟨hh', _⟩
  · have CF := Lib.hid CF
    have HD := Lib.hid d
    obtain ⟨h, N, c, e, ho⟩ := d.ex
    have c0 : w.cell? ⟨p, 0, none⟩ = some (.int .i64 R) := c.hp.cell (o := 0) rfl
    have c1 : w.cell? ⟨p, 1, none⟩ = some (.int .i64 N.length) := c.hp.cell (o := 1) rfl
    obtain ⟨ok, hl⟩ := d.ok e
    have hlen : N.length = L.length := by rw [← e, acc_length]
    have b1 : decide (n < 1) = false := by simp; omega
    have b2 : decide ((9007199254740991 : Int) < n) = false := by simp; omega
    have b3 : decide (R ≤ (N.length : Int)) = false := by simp; omega
    obtain ⟨P, B, rfl, hle, hgt⟩ := place_split n 0 N
    obtain ⟨A, x, hA⟩ := last_split (hdn h) P
    have hs := (Ok.split ok).lo
    have hsn : sm P ≤ n := by
      cases hP : P with
      | nil => simp only [sm]; omega
      | cons z t =>
        obtain ⟨A', x', hA'⟩ : ∃ A' x', P = A' ++ [x'] := ⟨_, _, (List.dropLast_concat_getLast (by rw [hP]; simp : P ≠ [])).symm⟩
        have := hle ⟨x'.id, 0 + sm A' + x'.gap⟩ (by rw [hA', acc_append]; simp [acc])
        rw [← hP, hA', sm_snoc]; dsimp only at this; omega
    have CP : Hid (∀ w', But No w w' → Calls Try.prog 24 #[.pointer (some ⟨p, 0, none⟩), .int .i64 n] w' fun r w'' => r = .returned (.tuple #[.pointer (some ⟨x.b, 0, none⟩), .int .i64 (n - sm P)]) ∧ w'' = w') := fun w' hb =>
      placeFor_any p R _ h P B x w' n ⟨⟨A, hA⟩, c.no hb⟩ ok h1 h2 hle hgt
    have CI : Hid (∀ w', But No w w' → Calls Try.prog 25 #[.pointer (some ⟨p, 0, none⟩), .pointer (some ⟨x.b, 0, none⟩), .int .i64 a, .int .i64 (n - sm P)] w' fun r w'' => r = .returned (.tuple #[]) ∧ Mv w S p R (ins ⟨a, n⟩ L) w'') := by
      intro w' hb
      refine (insert_cn p R h P B x w' a (n - sm P) ⟨⟨A, hA⟩, c.no hb⟩ ok hl (by omega) (fun y C hB => by have := hgt y C hB; omega)).mono ?_
      rintro r w'' ⟨hr, hc, hbb, hsz⟩
      have hb2 : But S w w'' := hb.no.trans (hbb.mono (fun k _ hk => ho k hk))
      have hws := hb.size
      refine ⟨hr, fun k => S k ∨ k = w'.heap.size, ⟨⟨h, _, hc, ?_, fun k hk => ?_⟩, fun k hk => ?_, HD.out.gd.ins h1 h2 ((hasT_not L a).1 hh) hf⟩, hb2, fun k hk => ?_⟩
      · rw [acc_append, acc, acc_bump, ← e, acc_append]
        dsimp only
        rw [show 0 + sm P + (n - sm P) = n by omega, show n + -(n - sm P) = 0 + sm P by omega]
        refine (ins_split (x := ⟨a, n⟩) hle (fun y C hB => ?_)).symm
        cases B with
        | nil => simp [acc] at hB
        | cons y' C' =>
          simp only [acc, List.cons.injEq] at hB
          rw [← hB.1]
          exact hgt y' C' rfl
      · unfold Own at hk
        rw [List.map_cons, List.map_append, List.map_cons, bump_b] at hk
        simp only [List.mem_cons, List.mem_append] at hk
        have hin : ∀ j, j = p ∨ j = (hdn h).b ∨ j ∈ P.map Nd.b ∨ j ∈ B.map Nd.b → S j := fun j hj => ho j (by
          unfold Own
          simp only [List.map_cons, List.map_append, List.mem_cons, List.mem_append]; exact hj)
        rcases hk with e | e | e | e | e
        · exact .inl (hin k (.inl e))
        · exact .inl (hin k (.inr (.inl e)))
        · exact .inl (hin k (.inr (.inr (.inl e))))
        · exact .inr e
        · exact .inl (hin k (.inr (.inr (.inr e))))
      · rcases hk with hk | hk
        · have := HD.out.lt k hk; have := hbb.size; omega
        · omega
      · rcases hk with hk | hk
        · exact .inl hk
        · exact .inr (by omega)
    generalize (P ++ B).length = m at c1 b3
    generalize x.b = xb at CP CI
    generalize n - sm P = g at CP CI
    clear d c e ho hh hf ok hl hlen hle hgt hs hsn
    go_enter Try.func11, Try.ntmps11
    go_wp2_with (go_at_call 23; refine CF.out.mono ?_; rintro e w2 ⟨rfl, rfl⟩)
    go_quiet (fail)
    have HB : Hid (But No w2 (w2.drewN nq)) := (But.refl No w2).drewN nq
    generalize w2.drewN nq = w3 at HB ⊢
    go_wp2_with (first | (go_at_call 24; (with_reducible refine (CP.out _ HB.out).mono ?_); rintro e w4 ⟨rfl, rfl⟩) | (go_at_call 25; (with_reducible refine (CI.out _ HB.out).mono ?_); rintro e w5 ⟨rfl, hm⟩; have HM := Lib.hid hm; clear hm))
    go_ret
    exact ⟨rfl, HM.out⟩
  · rw [hh] at hh'; cases hh'
theorem add_any (p : Nat) (R : Int) (L : List Tm) (S : Nat → Prop) (w : World) (a n : Int) (d : DP w S p R L) :
    Calls Try.prog 11 #[.pointer (some ⟨p, 0, none⟩), .int .i64 a, .int .i64 n] w fun r w' => r = .returned (.int .i64 (addE R L a n)) ∧ Mv w S p R (addL R L a n) w' := by
  unfold addL
  by_cases hn : n < 1 ∨ 9007199254740991 < n
  · have e : addE R L a n = 1 := by unfold addE; rw [if_pos hn]
    rw [e, if_neg (by omega)]
    exact (add_arg p R L S w a n d hn).mono fun _ _ ⟨h1, h2⟩ => ⟨h1, h2 ▸ d.stay (But.refl _ _)⟩
  · cases hh : hasT L a with
    | true =>
      have e : addE R L a n = 4 := by unfold addE; rw [if_neg hn, if_pos hh]
      rw [e, if_neg (by omega)]
      exact (add_exists p R L S w a n d (by omega) (by omega) hh).mono fun _ _ ⟨h1, h2⟩ => ⟨h1, h2 ▸ d.stay (But.refl _ _)⟩
    | false =>
      by_cases hf : R ≤ L.length
      · have e : addE R L a n = 3 := by unfold addE; rw [if_neg hn, if_neg (by rw [hh]; simp), if_pos hf]
        rw [e, if_neg (by omega)]
        exact (add_full p R L S w a n d (by omega) (by omega) hh hf).mono fun _ _ ⟨h1, h2⟩ => ⟨h1, d.stay (drewN_but h2)⟩
      · have e : addE R L a n = 0 := by unfold addE; rw [if_neg hn, if_neg (by rw [hh]; simp), if_neg hf]
        rw [e, if_pos rfl]
        exact add_ok p R L S w a n d (by omega) (by omega) hh (by omega)
end Go.Proofs.Ytfejnokljddomaa
