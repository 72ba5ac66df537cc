/- expire, Tick, Skip. -/
import Derived.Test.YtfejnokljddomaaV
import Derived.WalkMore
namespace Go.Proofs.Ytfejnokljddomaa
open Go.ChangeShapes Go.WideShapes Go.ChangeAt Go.RowKit Go.Deep
/-- What expire leaves. -/
def ExEnd (w : World) (S : Nat → Prop) (p : Nat) (R n : Int) (L : List Tm) (v : Value) (w' : World) : Prop :=
  Ov w' v (out n L) ∧ DP w' S p R (rst n L) ∧ But S w w' ∧ ∀ k, v.ownBlock = some k → w.heap.size ≤ k
/-- On the way. -/
structure Ex (w wr : World) (S : Nat → Prop) (p h : Nat) (R n : Int) (L : List Tm) (v : Value) (zs : List Int) (N : List Nd) : Prop where
  cn : Cn wr p R N.length h N
  own : ∀ k, Own p h N k → S k
  gd : Gd R (acc 0 N)
  out_ : out n L = zs ++ out n (acc 0 N)
  rst_ : rst n L = rst n (acc 0 N)
  ov : Ov wr v zs
  but : But S w wr
  new : ∀ k, v.ownBlock = some k → w.heap.size ≤ k
  lt : ∀ k, S k → k < w.heap.size
theorem Ex.stop {w wr : World} {S : Nat → Prop} {p h : Nat} {R n : Int} {L : List Tm} {v : Value} {zs : List Int} (e : Ex w wr S p h R n L v zs []) : ExEnd w S p R n L v wr := by
  have h1 := e.out_
  have h2 := e.rst_
  simp only [acc, out, rst, List.filter_nil, List.map_nil, List.append_nil] at h1 h2
  refine ⟨?_, ⟨⟨h, [], e.cn, ?_, e.own⟩, fun k hk => Nat.lt_of_lt_of_le (e.lt k hk) e.but.size, ?_⟩, e.but, e.new⟩
  · unfold out; rw [h1]; exact e.ov
  · unfold rst; rw [h2]; rfl
  · unfold rst; rw [h2]; exact e.gd
theorem Ex.stop2 {w wr : World} {S : Nat → Prop} {p h : Nat} {R n : Int} {L : List Tm} {v : Value} {zs : List Int} {y : Nd} {C : List Nd} {g : Int} (e : Ex w wr S p h R n L v zs (y :: C)) (hn : 0 ≤ n) (hg : n < y.gap) (hv : y.gap - n = g) : ExEnd w S p R n L v (wr.setCell ⟨y.b, 1, none⟩ (.int .i64 g)) := by
  obtain ⟨c, hb⟩ := e.cn.bump1 (g := -n) (v := g) (by omega)
  have hbs : But S wr (wr.setCell ⟨y.b, 1, none⟩ (.int .i64 g)) := hb.mono (fun k _ hk => e.own k hk)
  have srt := e.gd.srt
  have h1 := e.out_
  have h2 := e.rst_
  rw [acc] at srt h1 h2
  obtain ⟨o1, o2⟩ := out_none (n := n) srt (by show n < 0 + y.gap; omega)
  rw [o1, List.append_nil] at h1
  rw [o2, ← acc, acc_dn, show (0 : Int) - n = 0 + -n by omega, ← acc_bump] at h2
  refine ⟨?_, ⟨⟨h, bump (-n) (y :: C), ?_, h2.symm, fun k hk => e.own k ?_⟩, fun k hk => ?_, ?_⟩, e.but.trans hbs, e.new⟩
  · rw [h1]
    refine e.ov.but hbs (fun k hk hs => ?_)
    have := e.new k hk; have := e.lt k hs; omega
  · exact c
  · unfold Own at hk ⊢
    rw [List.map_cons, bump_b] at hk
    exact hk
  · have := e.lt k hk; have := e.but.size; have := hbs.size; omega
  · rw [e.rst_]; exact e.gd.rst hn
theorem Ex.go {w wr w3 w4 : World} {S : Nat → Prop} {p h : Nat} {R n : Int} {L : List Tm} {v v' : Value} {zs : List Int} {y : Nd} {C : List Nd} (e : Ex w wr S p h R n L v zs (y :: C)) (hg : y.gap ≤ n)
    (ov3 : Ov w3 v' (zs ++ [y.id])) (b3 : But (fun k => v.ownBlock = some k) wr w3) (hat : v'.ownBlock = v.ownBlock ∨ v'.ownBlock = some (wr.heap.size + 1))
    (c4 : Cn w4 p R (bump y.gap C).length h (bump y.gap C)) (b4 : But (Own p h (y :: C)) w3 w4) : Ex w w4 S p h R n L v' (zs ++ [y.id]) (bump y.gap C) := by
  have hbs : But S w3 w4 := b4.mono (fun k _ hk => e.own k hk)
  have ha : acc 0 (bump y.gap C) = acc (0 + y.gap) C := acc_bump 0 y.gap C
  have gd := e.gd
  have h1 := e.out_
  have h2 := e.rst_
  rw [acc] at gd h1 h2
  have hle : (⟨y.id, 0 + y.gap⟩ : Tm).left ≤ n := by show 0 + y.gap ≤ n; omega
  rw [out_cons hle] at h1
  rw [rst_cons hle] at h2
  have hnew : ∀ k, v'.ownBlock = some k → w.heap.size ≤ k := own_new e.new hat (by have := e.but.size; omega)
  refine ⟨c4, fun k hk => e.own k ?_, ?_, ?_, ?_, ?_, (e.but.andThen b3 (fun k hk => .inr (e.new k hk))).trans hbs, hnew, e.lt⟩
  · unfold Own at hk ⊢
    rw [List.map_cons, bump_b] at hk
    simp only [List.map_cons, List.mem_cons] at hk ⊢
    rcases hk with e | e | e
    · exact .inl e
    · exact .inr (.inl e)
    · exact .inr (.inr (.inr e))
  · rw [ha]; exact gd.sub (List.sublist_cons_self _ _)
  · rw [h1, ha]; simp
  · rw [h2, ha]
  · exact ov3.but hbs (fun k hk hs => by have := hnew k hk; have := e.lt k hs; omega)
set_option maxHeartbeats 4000000 in
set_option maxRecDepth 100000 in
theorem expire_any (p : Nat) (R : Int) (L : List Tm) (S : Nat → Prop) (w : World) (n : Int) (d : DP w S p R L) (hn : 0 ≤ n) :
    Calls Try.prog 27 #[.pointer (some ⟨p, 0, none⟩), .int .i64 n] w fun r w' => ∃ v, r = .returned v ∧ ExEnd w S p R n L v w' := by
  obtain ⟨h, N, c, e, ho⟩ := d.ex
  have HX : Hid (Ex w w S p h R n L (.slice none 0 0) [] N) := ⟨c, ho, by rw [e]; exact d.gd, by rw [e]; rfl, by rw [e], Ov.nil w, But.refl _ _, own_none, d.lt⟩
  obtain ⟨M, hM⟩ : ∃ M, M = (out n L).length := ⟨_, rfl⟩
  have HM := Lib.hid hM
  have hM2 : M ≤ 256 := by rw [hM]; have := out_len n L; have := d.gd.len; have := d.gd.r1; omega
  obtain ⟨i0, hi0, hz0, hz1, hz2⟩ := info_parts info3
  have I0 : Hid (Try.prog.info? 3 = some i0 ∧ i0.zero = some (.int .i64 0) ∧ i0.size = 1 ∧ i0.bytes = 8) := ⟨hi0, hz0, hz1, hz2⟩
  clear hi0 hz0 hz1 hz2 d c e ho hM
  go_enter Try.func27, Try.ntmps27
  go_wp2_with fail
  go_step3
  go_wp2_with fail
  go_step3
  go_wp2_with fail
  go_loopw [5] (fun s wr => ∃ (v : Value) (zs : List Int) (N : List Nd), s = v ∧ Hid (Ex w wr S p h R n L v zs N)) (fun s _ => M - lenS s)
  case atStart => exact ⟨_, [], N, rfl, HX⟩
  case round =>
    obtain ⟨v, zs, N1, hsv, HE⟩ := hrel
    have hsv' := hsv.symm
    subst hsv'
    clear HX
    have c2 : wr.cell? ⟨p, 2, none⟩ = some (.pointer (some ⟨h, 0, none⟩)) := HE.out.cn.hp.cell (o := 2) rfl
    have HB := Lib.hid (At.first HE.out.cn).blk
    cases N1 with
    | nil =>
      have d2 : wr.cell? ⟨h, 2, none⟩ = some (.pointer none) := HB.out.cell (o := 2) rfl
      go_wp2
      go_ret
      exact ⟨_, rfl, HE.out.stop⟩
    | cons y C =>
      have d2 : wr.cell? ⟨h, 2, none⟩ = some (.pointer (some ⟨y.b, 0, none⟩)) := HB.out.cell (o := 2) rfl
      have HY := Lib.hid (At.first HE.out.cn).blk2
      have e1 : wr.cell? ⟨y.b, 1, none⟩ = some (.int .i64 y.gap) := HY.out.cell (o := 1) rfl
      have e0 : wr.cell? ⟨y.b, 0, none⟩ = some (.int .i64 y.id) := HY.out.cell (o := 0) rfl
      have HOK : Hid (Ok 0 (y :: C) ∧ (y :: C).length ≤ 256) := ⟨Gd.ok HE.out.gd, by have := HE.out.gd.len; have := HE.out.gd.r1; rw [acc_length] at *; omega⟩
      have o1 : 0 ≤ y.gap := HOK.out.1.2.2.1
      have o2 : y.gap ≤ 9007199254740991 := by have := HOK.out.1.2.2.2.lo; omega
      by_cases hg : n < y.gap
      · have b1 : decide (n < y.gap) = true := by simpa using hg
        obtain ⟨yg, hyg⟩ : ∃ yg, y.gap = yg := ⟨_, rfl⟩
        have HS : Hid (ExEnd w S p R n L v (wr.setCell ⟨y.b, 1, none⟩ (.int .i64 (yg - n)))) := HE.out.stop2 hn hg (by rw [hyg])
        have f1 := HY.out.frozen 1
        rw [hyg] at e1 o1 o2 b1 hg
        clear hyg e0
        go_wp2
        go_ret
        exact ⟨_, rfl, HS.out⟩
      · have b1 : decide (n < y.gap) = false := by simpa using hg
        have HLE : Hid (y.gap ≤ n) := by show _ ≤ _; omega
        obtain ⟨m, hm⟩ : ∃ m, zs.length = m := ⟨_, rfl⟩
        have HMM : Hid (zs.length = m) := hm
        have HL : Hid (m < M) := by
          have h1 := congrArg List.length HE.out.out_
          rw [acc, out_cons (by show 0 + y.gap ≤ n; omega), List.length_append, List.length_cons, hm, ← HM.out] at h1
          show _ < _; omega
        have hm2 : m ≤ 256 := by have := HL.out; omega
        have ROW : Hid ((wr.alloc (.cells #[.int .i64 y.id] 3)).ownsRow 0 3 1 v m (zs.map (Value.int .i64))) := by
          have := owns_but (S := No) HE.out.ov ((But.refl No wr).alloc (.cells #[.int .i64 y.id] 3)) (fun _ _ f => f)
          rw [hm] at this; exact this
        have AFT : Hid (∀ g3 c3 w3, w3.ownsRow 0 3 1 (.slice (some ⟨g3, 0, none⟩) (m + 1) c3) (m + 1) (zs.map (Value.int .i64) ++ [.int .i64 y.id]) → (wr.alloc (.cells #[.int .i64 y.id] 3)).grownBy w3 v.ownBlock → (v.ownBlock = some g3 ∨ g3 = wr.heap.size + 1) →
            w3.cell? ⟨p, 2, none⟩ = some (.pointer (some ⟨h, 0, none⟩)) ∧ Calls Try.prog 28 #[.pointer (some ⟨p, 0, none⟩), .pointer (some ⟨h, 0, none⟩)] w3 fun r w' => r = .returned (.tuple #[]) ∧ Ex w w' S p h R n L (.slice (some ⟨g3, 0, none⟩) (m + 1) c3) (zs ++ [y.id]) (bump y.gap C)) := by
          intro g3 c3 w3 ho hgr hat
          have b3 : But (fun k => v.ownBlock = some k) wr w3 := ((But.refl _ wr).alloc _).grown hgr (fun k e => .inl e)
          have cn3 : Cn w3 p R (y :: C).length h (y :: C) := HE.out.cn.but b3 (fun k hk hs => by
            have h1 := HE.out.lt k (HE.out.own k hk)
            have h2 := HE.out.new k hs
            omega)
          have ov3 : Ov w3 (.slice (some ⟨g3, 0, none⟩) (m + 1) c3) (zs ++ [y.id]) := by
            unfold Ov; rw [List.length_append, List.map_append, HMM.out]; exact ho
          refine ⟨cn3.hp.cell (o := 2) rfl, (remove_cn p R h [] C (hdn h) y w3 (At.first cn3) HOK.out.1 HOK.out.2).mono ?_⟩
          rintro r w4 ⟨h1, h2, h3⟩
          exact ⟨h1, HE.out.go HLE.out ov3 b3 (by rcases hat with h | h; exact .inl h.symm; exact .inr (by rw [h]; rfl)) h2 h3⟩
        have HLS : Hid (lenS v = m) := by
          obtain ⟨A, cc, e, _⟩ := HE.out.ov.slice
          show lenS v = m
          rw [e, ← hm]; rfl
        generalize y.id = yi at e0 ROW AFT
        generalize y.gap = yg at e1 b1 hg o1 o2
        clear hm HE HY HB
        go_wp2_with (first | (at_builtin; refine wpList_append_lies _ rfl _ _ 35 rfl 0 3 i0 _ 1 8 Try.underlying35 I0.out.1 I0.out.2.1 I0.out.2.2.1 I0.out.2.2.2 rfl (by omega) v m _ rfl ROW.out ⟨wr.heap.size, 0, none⟩ 1 1 [.int .i64 yi] rfl rfl (one_news wr yi) (by simp [Value.oneCell']) (by omega) (by unfold maxLen; omega) (by omega) (Nat.zero_le _) (wr.heap.size + 1) (by simp) ?_; intro g3 cap3 w3 hown3 hgrow3 hat3 hlt3; obtain ⟨k2, CR⟩ := AFT.out g3 cap3 w3 hown3 hgrow3 hat3; have CRH := Lib.hid CR; clear hown3 hgrow3 hat3 hlt3 CR) | (go_at_call 28; refine CRH.out.mono ?_; rintro e w4 ⟨rfl, hx4⟩; have HX4 := Lib.hid hx4; clear hx4))
        go_roundw
        case rel => exact ⟨_, _, _, rfl, HX4⟩
        case measure => simp only [lenS]; have h1 := HLS.out; have h2 := HL.out; simp only [lenS] at h1; omega
theorem tick_any (p : Nat) (R : Int) (L : List Tm) (S : Nat → Prop) (w : World) (d : DP w S p R L) :
    Calls Try.prog 14 #[.pointer (some ⟨p, 0, none⟩)] w fun r w' => ∃ v, r = .returned v ∧ ExEnd w S p R 1 L v w' := by
  have CE := Lib.hid (expire_any p R L S w 1 d (by omega))
  clear d
  go_enter Try.func14, Try.ntmps14
  go_wp2_with (go_at_call 27; refine CE.out.mono ?_; rintro e w2 ⟨v, rfl, hx⟩; have HX := Lib.hid hx; clear hx)
  go_ret
  exact ⟨_, rfl, HX.out⟩
theorem skip_any (p : Nat) (R : Int) (L : List Tm) (S : Nat → Prop) (w : World) (n : Int) (d : DP w S p R L) (hn : 0 ≤ n) :
    Calls Try.prog 16 #[.pointer (some ⟨p, 0, none⟩), .int .i64 n] w fun r w' => ∃ v, r = .returned (.tuple #[v, .int .i64 0]) ∧ ExEnd w S p R n L v w' := by
  have CE := Lib.hid (expire_any p R L S w n d hn)
  have b1 : decide (n < 0) = false := by simp; omega
  clear d
  go_enter Try.func16, Try.ntmps16
  go_wp2_with (go_at_call 27; refine CE.out.mono ?_; rintro e w2 ⟨v, rfl, hx⟩; have HX := Lib.hid hx; clear hx)
  go_ret2
  exact ⟨_, rfl, HX.out⟩
theorem skip_bad (p : Nat) (w : World) (n : Int) (hn : n < 0) :
    Calls Try.prog 16 #[.pointer (some ⟨p, 0, none⟩), .int .i64 n] w fun r w' => r = .returned (.tuple #[.slice none 0 0, .int .i64 1]) ∧ w' = w := by
  have b1 : decide (n < 0) = true := by simp; omega
  go_enter Try.func16, Try.ntmps16
  go_wp2
  go_ret2
  exact ⟨rfl, rfl⟩
end Go.Proofs.Ytfejnokljddomaa
