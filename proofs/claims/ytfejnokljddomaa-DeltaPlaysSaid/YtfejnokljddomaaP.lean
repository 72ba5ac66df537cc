/- A list of timers as a list of ids with what they have left; New, Len, Left, Cancel, Add. -/
import Derived.Test.YtfejnokljddomaaC2
namespace Go.Proofs.Ytfejnokljddomaa
open Go.ChangeShapes Go.WideShapes Go.ChangeAt Go.RowKit Go.Deep
/-- At p there is a list for R timers that holds L; its blocks are of S. -/
structure DP (w : World) (S : Nat → Prop) (p : Nat) (R : Int) (L : List Tm) : Prop where
  ex : ∃ h N, Cn w p R N.length h N ∧ acc 0 N = L ∧ ∀ k, Own p h N k → S k
  lt : ∀ k, S k → k < w.heap.size
  gd : Gd R L
theorem DP.but {w w' : World} {S S' : Nat → Prop} {p : Nat} {R : Int} {L : List Tm} (d : DP w S p R L) (hb : But S' w w') (hs : ∀ k, S k → ¬ S' k) : DP w' S p R L := by
  obtain ⟨h, N, c, e, ho⟩ := d.ex
  exact ⟨⟨h, N, c.but hb (fun k hk => hs k (ho k hk)), e, ho⟩, fun k hk => Nat.lt_of_lt_of_le (d.lt k hk) hb.size, d.gd⟩
theorem DP.no {w w' : World} {S : Nat → Prop} {p : Nat} {R : Int} {L : List Tm} (d : DP w S p R L) (hb : But No w w') : DP w' S p R L := d.but hb (fun _ _ f => f)
/-- From one state to another one. -/
def Mv (w : World) (S : Nat → Prop) (p : Nat) (R : Int) (L : List Tm) (w' : World) : Prop := ∃ S', DP w' S' p R L ∧ But S w w' ∧ ∀ k, S' k → S k ∨ w.heap.size ≤ k
theorem DP.stay {w w' : World} {S : Nat → Prop} {p : Nat} {R : Int} {L : List Tm} (d : DP w S p R L) (hb : But No w w') : Mv w S p R L w' := ⟨S, d.no hb, hb.no, fun _ h => .inl h⟩
theorem Mv.same {w w' : World} {S : Nat → Prop} {p : Nat} {R : Int} {L : List Tm} (h : DP w' S p R L ∧ But S w w') : Mv w S p R L w' := ⟨S, h.1, h.2, fun _ h => .inl h⟩
theorem len_any (p : Nat) (R : Int) (L : List Tm) (S : Nat → Prop) (w : World) (d : DP w S p R L) :
    Calls Try.prog 20 #[.pointer (some ⟨p, 0, none⟩)] w fun r w' => r = .returned (.int .i64 L.length) ∧ w' = w := by
  obtain ⟨h, N, c, e, ho⟩ := d.ex
  have c1 : w.cell? ⟨p, 1, none⟩ = some (.int .i64 N.length) := c.hp.cell (o := 1) rfl
  have el : L.length = N.length := by rw [← e, acc_length]
  rw [el]
  clear d c e ho el
  go_enter Try.func20, Try.ntmps20
  go_wp2
  go_ret
  exact ⟨rfl, rfl⟩
/-- find, and where it is. -/
structure Found (w : World) (S : Nat → Prop) (p : Nat) (R : Int) (L : List Tm) (a : Int) (h : Nat) (P C : List Nd) (x y : Nd) : Prop where
  at_ : At w p R (P ++ y :: C).length h P (y :: C) x
  acc_ : acc 0 (P ++ y :: C) = L
  own : ∀ k, Own p h (P ++ y :: C) k → S k
  id_ : y.id = a
  calls : Calls Try.prog 23 #[.pointer (some ⟨p, 0, none⟩), .int .i64 a] w fun r w' => r = .returned (.tuple #[.pointer (some ⟨x.b, 0, none⟩), .int .i64 (lft L a)]) ∧ w' = w
theorem DP.find {w : World} {S : Nat → Prop} {p : Nat} {R : Int} {L : List Tm} (d : DP w S p R L) (a : Int) :
    (hasT L a = false ∧ Calls Try.prog 23 #[.pointer (some ⟨p, 0, none⟩), .int .i64 a] w fun r w' => r = .returned (.tuple #[.pointer none, .int .i64 0]) ∧ w' = w) ∨ (hasT L a = true ∧ ∃ h P C x y, Found w S p R L a h P C x y) := by
  obtain ⟨h, N, c, e, ho⟩ := d.ex
  have ok : Ok 0 N := Gd.ok (R := R) (by rw [e]; exact d.gd)
  by_cases hz : ∃ z ∈ N, z.id = a
  · refine .inr ⟨?_, ?_⟩
    · obtain ⟨z, hz, ez⟩ := hz
      obtain ⟨t, ht, et⟩ := acc_mem_id (s := 0) hz
      exact (hasT_iff L a).2 ⟨t, e ▸ ht, et.trans ez⟩
    · obtain ⟨P, y, C, rfl, hy, hp⟩ := find_split hz
      obtain ⟨A, x, hA⟩ := last_split (hdn h) P
      refine ⟨h, P, C, x, y, ⟨⟨A, hA⟩, c⟩, e, ho, hy, ?_⟩
      have := find_yes p R _ h P C x y w a ⟨⟨A, hA⟩, c⟩ ok hy hp
      rw [← e, lft_split hy hp, Int.zero_add]
      exact this
  · have hno : ∀ z ∈ N, z.id ≠ a := fun z hz' e => hz ⟨z, hz', e⟩
    refine .inl ⟨(hasT_not L a).2 (fun t ht => ?_), find_no p R _ h N w a c ok hno⟩
    rw [← e] at ht
    obtain ⟨z, hz', ez⟩ := mem_acc_id ht
    rw [← ez]; exact hno z hz'
theorem lft_not {L : List Tm} {a : Int} (h : hasT L a = false) : lft L a = 0 := lft_none ((hasT_not L a).1 h)
theorem left_any (p : Nat) (R : Int) (L : List Tm) (S : Nat → Prop) (w : World) (a : Int) (d : DP w S p R L) :
    Calls Try.prog 21 #[.pointer (some ⟨p, 0, none⟩), .int .i64 a] w fun r w' => r = .returned (.int .i64 (lft L a)) ∧ w' = w := by
  rcases d.find a with ⟨hh, CF⟩ | ⟨_, h, P, C, x, y, F⟩
  · have CF := Lib.hid CF
    rw [lft_not hh]
    clear hh d
    go_enter Try.func21, Try.ntmps21
    go_wp2_with (go_at_call 23; refine CF.out.mono ?_; rintro e w2 ⟨rfl, rfl⟩)
    go_ret
    exact ⟨rfl, rfl⟩
  · have CF := Lib.hid F.calls
    generalize lft L a = v at CF ⊢
    generalize x.b = xb at CF
    clear d F
    go_enter Try.func21, Try.ntmps21
    go_wp2_with (go_at_call 23; refine CF.out.mono ?_; rintro e w2 ⟨rfl, rfl⟩)
    go_ret
    exact ⟨rfl, rfl⟩
theorem len_snoc (P C : List Nd) (y : Nd) (g : Int) : (P ++ y :: C).length = (P ++ bump g C).length + 1 := by
  cases C <;> simp [bump] <;> omega
theorem remove_cn (p : Nat) (R : Int) (h : Nat) (P C : List Nd) (x y : Nd) (w : World) (c : At w p R (P ++ y :: C).length h P (y :: C) x) (ok : Ok 0 (P ++ y :: C)) (hl : (P ++ y :: C).length ≤ 256) :
    Calls Try.prog 28 #[.pointer (some ⟨p, 0, none⟩), .pointer (some ⟨x.b, 0, none⟩)] w fun r w' => r = .returned (.tuple #[]) ∧ Cn w' p R (P ++ bump y.gap C).length h (P ++ bump y.gap C) ∧ But (Own p h (P ++ y :: C)) w w' := by
  have hs := Ok.split ok
  have e := len_snoc P C y y.gap
  rw [e] at c hl
  cases C with
  | nil => exact remove_end p R _ h P x y w c (by omega)
  | cons z D =>
    refine remove_mid p R _ h P D x y z w c (by omega) hs.2.2.1 hs.2.2.2.2.2.1 ?_
    have h1 := hs.2.2.2.2.2.2.lo
    have h2 := hs.1
    omega
theorem DP.ok {w : World} {S : Nat → Prop} {p : Nat} {R : Int} {L : List Tm} (d : DP w S p R L) {N : List Nd} (e : acc 0 N = L) : Ok 0 N ∧ N.length ≤ 256 := by
  refine ⟨Gd.ok (R := R) (by rw [e]; exact d.gd), ?_⟩
  have h1 := d.gd.len
  have h2 := d.gd.r1
  rw [← e, acc_length] at h1
  omega
theorem cancel_any (p : Nat) (R : Int) (L : List Tm) (S : Nat → Prop) (w : World) (a : Int) (d : DP w S p R L) :
    Calls Try.prog 18 #[.pointer (some ⟨p, 0, none⟩), .int .i64 a] w fun r w' => r = .returned (.bool (hasT L a)) ∧ DP w' S p R (rmv L a) ∧ But S w w' := by
  have HD := Lib.hid d
  rcases d.find a with ⟨hh, CF⟩ | ⟨hh, h, P, C, x, y, F⟩
  · have CF := Lib.hid CF
    rw [hh, rmv_none ((hasT_not L a).1 hh)]
    clear hh d
    go_enter Try.func18, Try.ntmps18
    go_wp2_with (go_at_call 23; refine CF.out.mono ?_; rintro e w2 ⟨rfl, rfl⟩)
    go_ret
    exact ⟨rfl, HD.out, But.refl _ _⟩
  · have CF := Lib.hid F.calls
    have HF := Lib.hid F
    obtain ⟨ok, hl⟩ := d.ok F.acc_
    have CR := Lib.hid (remove_cn p R h P C x y w F.at_ ok hl)
    have HE : Hid (∀ w', Cn w' p R (P ++ bump y.gap C).length h (P ++ bump y.gap C) → But (Own p h (P ++ y :: C)) w w' → DP w' S p R (rmv L a) ∧ But S w w') := by
      intro w' c hb
      have hbs : But S w w' := hb.mono (fun k _ hk => HF.out.own k hk)
      refine ⟨⟨⟨h, _, c, ?_, fun k hk => ?_⟩, fun k hk => Nat.lt_of_lt_of_le (HD.out.lt k hk) hb.size, HD.out.gd.rmv a⟩, hbs⟩
      · have e1 : L = acc 0 P ++ ⟨y.id, 0 + sm P + y.gap⟩ :: acc (0 + sm P + y.gap) C := by rw [← HF.out.acc_, acc_append, acc]
        rw [acc_append, acc_bump]
        have nd := HD.out.gd.nd
        rw [e1] at nd ⊢
        exact (rmv_split nd HF.out.id_).symm
      · refine HF.out.own k ?_
        unfold Own at hk ⊢
        rw [List.map_cons, List.map_append, bump_b] at hk
        simp only [List.map_cons, List.map_append, List.mem_cons, List.mem_append] at hk ⊢
        rcases hk with e | e | e | e
        · exact .inl e
        · exact .inr (.inl e)
        · exact .inr (.inr (.inl e))
        · exact .inr (.inr (.inr (.inr e)))
    rw [hh]
    generalize lft L a = v at CF
    generalize x.b = xb at CF CR
    clear d F ok hl hh
    go_enter Try.func18, Try.ntmps18
    go_wp2_with (first | (go_at_call 23; refine CF.out.mono ?_; rintro e w2 ⟨rfl, rfl⟩) | (go_at_call 28; refine CR.out.mono ?_; rintro e w3 ⟨rfl, h3, h4⟩; have HR := Lib.hid (HE.out w3 h3 h4); clear h3 h4))
    go_ret
    exact ⟨rfl, HR.out⟩
def NewEnd (w : World) (R : Int) (p : Nat) (w' : World) : Prop := ∃ S, DP w' S p R [] ∧ But No w w' ∧ ∀ k, S k → w.heap.size ≤ k
set_option maxHeartbeats 1000000 in
theorem new_ok (R : Int) (w : World) (h0 : 0 ≤ R) (h1 : R ≤ 256) :
    Calls Try.prog 8 #[.int .i64 R] w fun r w' => ∃ p, r = .returned (.tuple #[.pointer (some ⟨p, 0, none⟩), .int .i64 0]) ∧ NewEnd w R p w' := by
  have b1 : decide (R < 0) = false := by simp; omega
  have b2 : decide ((256 : Int) < R) = false := by simp; omega
  go_enter Try.func8, Try.ntmps8
  go_wp2
  go_ret2
  refine ⟨_, rfl, fun k => w.heap.size ≤ k ∧ k < w.heap.size + 2, ⟨⟨w.heap.size, [], ⟨blk2 w _ _ _, ⟨Blk.alloc (Blk.new w _ _) _, trivial⟩, by simp [hdn]⟩, rfl, ?_⟩, ?_, Gd.nil h0 h1⟩, ((But.refl No w).alloc _).alloc _, fun k hk => hk.1⟩
  · intro k hk
    unfold Own at hk
    simp [hdn] at hk
    omega
  · intro k hk
    simp; omega
theorem new_bad (R : Int) (w : World) (h : R < 0 ∨ 256 < R) :
    Calls Try.prog 8 #[.int .i64 R] w fun r w' => r = .returned (.tuple #[.pointer none, .int .i64 1]) ∧ w = w' := by
  rcases h with h | h
  · have b1 : decide (R < 0) = true := by simp; omega
    go_enter Try.func8, Try.ntmps8
    go_wp2
    go_ret2
    exact ⟨rfl, rfl⟩
  · have b1 : decide (R < 0) = false := by simp; omega
    have b2 : decide ((256 : Int) < R) = true := by simp; omega
    go_enter Try.func8, Try.ntmps8
    go_wp2
    go_ret2
    exact ⟨rfl, rfl⟩
end Go.Proofs.Ytfejnokljddomaa
