/- A range over a function that visits what may be requested within some ticks: the iterator's contract. -/
import Derived.Stop.RegionWithIn
import Derived.Test.YtnjkgalbbhmgjaaReC3
namespace Go.Proofs.Ytnjkgalbbhmgjaa.rsp
open Go.ChangeShapes Go.WideShapes Go.ChangeAt Go.RowKit Go.Deep Go.Shelf
attribute [local go_sem] Oper.semAt_some
/-- What may be requested within t ticks: so much work, so many times. -/
def rqA (t : Int) (a : List Ld) : List (Int × Int) := a.map fun x => (x.w, up (t + x.j) x.p)
def rqB (rl t : Int) (b : List Ld) : List (Int × Int) := b.map fun x => (rl, up (t + x.j) x.p + 1)
def rqs (own bl rl t : Int) (a b : List Ld) : List (Int × Int) := (own, 1) :: (bl, 1) :: (rqA t a ++ rqB rl t b)
theorem rqs_len (own bl rl t : Int) (a b : List Ld) : (rqs own bl rl t a b).length = 2 + (a.length + b.length) := by
  unfold rqs rqA rqB; simp; omega
theorem rqs_a {own bl rl t : Int} {a b : List Ld} {q : Nat} {x : Ld} (h : a[q]? = some x) : (rqs own bl rl t a b)[2 + q]? = some (x.w, up (t + x.j) x.p) := by
  have hq : q < a.length := (List.getElem?_eq_some_iff.1 h).1
  unfold rqs rqA rqB
  rw [show 2 + q = q + 1 + 1 by omega, List.getElem?_cons_succ, List.getElem?_cons_succ, List.getElem?_append_left (by simpa using hq), List.getElem?_map, h]; rfl
theorem rqs_b {own bl rl t : Int} {a b : List Ld} {q : Nat} {x : Ld} (h : b[q]? = some x) : (rqs own bl rl t a b)[2 + (a.length + q)]? = some (rl, up (t + x.j) x.p + 1) := by
  unfold rqs rqA rqB
  rw [show 2 + (a.length + q) = a.length + q + 1 + 1 by omega, List.getElem?_cons_succ, List.getElem?_cons_succ, List.getElem?_append_right (by simp), List.getElem?_map, List.length_map, show a.length + q - a.length = q by omega, h]; rfl
theorem but_grown {W W' : World} (h : But No W W') : W.grownBy W' none := ⟨h.os, h.tape, h.output, h.size, fun k hk _ => h.block k hk (fun f => f)⟩
set_option maxRecDepth 100000 in
set_option maxHeartbeats 4000000 in
theorem req1_in (n : Nat) (hn : 1 ≤ n) (lp Bs Bn : Nat) (own bl rl t : Int) (A : Option Addr) (m c : Nat) (a : List Ld) (B : Option Addr) (k d : Nat) (b : List Ld) (w : World) (hA : RLd w A m a) (hB : RLd w B k b) (S : Nat → Prop) (hSA : 0 < m → ∀ b off, A = some ⟨b, off, none⟩ → ¬ S b) (hSB : 0 < k → ∀ b off, B = some ⟨b, off, none⟩ → ¬ S b) (hSs : ¬ S Bs) (hSn : ¬ S Bn)
    (hokA : ∀ x ∈ a, okD x = true) (hokB : ∀ x ∈ b, okD x = true) (t0 : 0 ≤ t) (t1 : t ≤ 4611686018427387904)
    (J Jx : List {p : Int × Int // p ∈ rqs own bl rl t a b} → World → Prop) (W : World) (hW : But S w W)
    (hJ : AbidesFrom W.heap.size J)
    (hY : ∀ pre (x : {p : Int × Int // p ∈ rqs own bl rl t a b}) W1, J pre W1 → pre.length < (rqs own bl rl t a b).length → YieldAt Fence.wide (n - 1) Try.prog lp #[.int .i64 x.1.1, .int .i64 x.1.2] W1 fun e W' =>
      (e = .returned (.bool true) ∧ J (pre ++ [x]) W' ∧ But S W1 W') ∨ (e = .returned (.bool false) ∧ Jx (pre ++ [x]) W'))
    (hBs : Blk w Bs #[.int .i64 own, .int .i64 bl, .int .i64 rl, .slice A m c, .slice B k d] 38) (hBn : Blk w Bn #[.int .i64 t] 3) (h0 : J [] W) :
    CallsIn Fence.wide n Try.prog 30 #[.func (.yield lp) #[] #[], .pointer (some ⟨Bs, 0, none⟩), .pointer (some ⟨Bn, 0, none⟩)] W fun e W' => (∃ v, e = .returned v) ∧
      ((∃ ys, ys = (rqs own bl rl t a b).attach ∧ J ys W') ∨ (∃ pre, pre <+: (rqs own bl rl t a b).attach ∧ Jx pre W')) := by
  have HNA := Lib.hid hA.len
  have HNB := Lib.hid hB.len
  have HA := Lib.hid hA
  have HB := Lib.hid hB
  have hmA := hA.max
  have hmB := hB.max
  have HOA := Lib.hid hokA
  have HOB := Lib.hid hokB
  have HLEN : Hid ((rqs own bl rl t a b).length = 2 + (m + k)) := Lib.hid (by rw [rqs_len, HNA.out, HNB.out])
  have HYR : Hid (∀ q x W0 W1, (rqs own bl rl t a b)[q]? = some x → J ((rqs own bl rl t a b).attach.take q) W0 → But No W0 W1 → YieldAt Fence.wide (n - 1) Try.prog lp #[.int .i64 x.1, .int .i64 x.2] W1 fun e W' =>
      ∃ g : Bool, e = .returned (.bool g) ∧ ((g = true ∧ J ((rqs own bl rl t a b).attach.take (q + 1)) W' ∧ But S W1 W') ∨ (g = false ∧ ∃ pre, pre <+: (rqs own bl rl t a b).attach ∧ Jx pre W'))) := Lib.hid (fun q x W0 W1 hx hj hb => by
    obtain ⟨hq, he⟩ := List.getElem?_eq_some_iff.1 hx
    have hs := attach_take_snoc hq
    have := hY ((rqs own bl rl t a b).attach.take q) ⟨(rqs own bl rl t a b)[q], List.getElem_mem hq⟩ W1 (hJ _ _ _ none hj (but_grown hb) (fun r e => by cases e)) (by rw [List.length_take, List.length_attach]; omega)
    rw [← hs] at this
    simp only [he] at this
    refine this.mono fun e W' h => ?_
    rcases h with h | ⟨h1, h2⟩
    · exact ⟨true, h.1, .inl ⟨rfl, h.2⟩⟩
    · exact ⟨false, h1, .inr ⟨rfl, _, List.take_prefix _ _, h2⟩⟩)
  have HY0 := Lib.hid (fun W0 W1 h1 h2 => HYR.out 0 (own, 1) W0 W1 rfl h1 h2)
  have HY1 := Lib.hid (fun W0 W1 h1 h2 => HYR.out 1 (bl, 1) W0 W1 rfl h1 h2)
  have HC : Hid (∀ X, But S w X → (X.cell? ⟨Bs, 0, none⟩ = some (.int .i64 own) ∧ X.cell? ⟨Bs, 1, none⟩ = some (.int .i64 bl) ∧ X.cell? ⟨Bs, 2, none⟩ = some (.int .i64 rl)) ∧ (X.cell? ⟨Bs, 3, none⟩ = some (.slice A m c) ∧ X.cell? ⟨Bs, 4, none⟩ = some (.slice B k d)) ∧ X.cell? ⟨Bn, 0, none⟩ = some (.int .i64 t)) := Lib.hid (fun X h =>
    ⟨⟨(hBs.but h hSs).cell (o := 0) rfl, (hBs.but h hSs).cell (o := 1) rfl, (hBs.but h hSs).cell (o := 2) rfl⟩, ⟨(hBs.but h hSs).cell (o := 3) rfl, (hBs.but h hSs).cell (o := 4) rfl⟩, (hBn.but h hSn).cell (o := 0) rfl⟩)
  have HB0 := Lib.hid hW
  have HAS : Hid (∀ X, But S w X → RLd X A m a) := Lib.hid (fun X h => hA.but h hSA)
  have HBS : Hid (∀ X, But S w X → RLd X B k b) := Lib.hid (fun X h => hB.but h hSB)
  have H0 : Hid (J ((rqs own bl rl t a b).attach.take 0) W) := Lib.hid (by simpa using h0)
  clear hA hB hY hJ hBs hBn hW h0 hokA hokB hSA hSB hSs hSn HA HB
  refine callsIn_of_wp Try.func30 rfl trivial ?_ rfl
  simp only [Try.ntmps30, List.size_toArray, List.length_cons, List.length_nil, Nat.reduceAdd, Nat.reduceSub, Array.replicate_succ, Array.replicate_zero, List.push_toArray, List.append_toArray, List.nil_append, List.cons_append]
  obtain ⟨⟨e0, e1, e2⟩, ⟨e3, e4⟩, e5⟩ := HC.out W HB0.out
  obtain ⟨fn, tmps, assign, body, hy, hR⟩ := HY0.out W W H0.out (But.refl No W)
  dsimp only at hy
  have HR := Lib.hid hR
  clear hR
  gi_wp2
  refine HR.out.mono ?_
  rintro e W1 ⟨g, rfl, ⟨rfl, hj, hk⟩ | ⟨rfl, hx⟩⟩
  rotate_left
  · gi_wp2
    refine ⟨fun _ h => (by cases h), ?_⟩
    gi_wp2
    refine bodyPost_ret (results_none rfl _ _ _) rfl ?_
    exact ⟨⟨_, rfl⟩, .inr hx⟩
  clear HR hy
  have HJ1 := Lib.hid hj
  have HB1 : Hid (But S w W1) := Lib.hid (HB0.out.trans hk)
  clear e0 e1 e2 e3 e4 e5 hj hk
  obtain ⟨⟨e0, e1, e2⟩, ⟨e3, e4⟩, e5⟩ := HC.out W1 HB1.out
  obtain ⟨fn, tmps, assign, body, hy, hR⟩ := HY1.out W1 W1 HJ1.out (But.refl No W1)
  try dsimp only at hy
  have HR := Lib.hid hR
  clear hR
  gi_wp2
  refine HR.out.mono ?_
  rintro e W2 ⟨g, rfl, ⟨rfl, hj, hk⟩ | ⟨rfl, hx⟩⟩
  rotate_left
  · gi_wp2
    refine bodyPost_ret (results_none rfl _ _ _) rfl ?_
    exact ⟨⟨_, rfl⟩, .inr hx⟩
  clear HR hy
  have HJ2 : Hid (J ((rqs own bl rl t a b).attach.take (2 + 0)) W2) := Lib.hid hj
  have HB2 : Hid (But S w W2) := Lib.hid (HB1.out.trans hk)
  clear e0 e1 e2 e3 e4 e5 hj hk
  obtain ⟨⟨e0, e1, e2⟩, ⟨e3, e4⟩, e5⟩ := HC.out W2 HB2.out
  gi_wp2
  gi_loopw [23] (fun j w3 => ∃ q : Nat, q ≤ m ∧ j = .int .i64 (q : Int) ∧ Hid (J ((rqs own bl rl t a b).attach.take (2 + q)) w3) ∧ Hid (But S w w3)) (fun j _ => m - (intOf j).toNat)
  case atStart => exact ⟨0, by omega, rfl, HJ2.out, HB2.out⟩
  case round =>
    obtain ⟨q, hq, rfl, HJS, HBR⟩ := hrel
    clear e0 e1 e2 e3 e4 e5
    obtain ⟨⟨e0, e1, e2⟩, ⟨e3, e4⟩, e5⟩ := HC.out wr HBR.out
    by_cases hqm : q < m
    · have hqm2 : (q : Int) < (m : Int) := by omega
      have hq0 : (0 : Int) ≤ (q : Int) := Int.natCast_nonneg q
      have b3 : decide ((q : Int) < (m : Int)) = true := by simp; omega
      obtain ⟨x, hx⟩ : ∃ x, a[q]? = some x := ⟨_, List.getElem?_eq_getElem (by rw [HNA.out]; exact hqm)⟩
      obtain ⟨bk, off, rfl, _, c0, c1, c2⟩ := (HAS.out wr HBR.out).at1 hx
      have HX := rqs_a (own := own) (bl := bl) (rl := rl) (t := t) (b := b) hx
      have HX := Lib.hid HX
      have hok := HOA.out x (List.mem_of_getElem? hx)
      obtain ⟨⟨hw0, hw1⟩, ⟨hp0, hp1⟩, hj0, hj1⟩ := okD_iff.1 hok
      have CA := Lib.hid (fun W => arr_any x t hok t0 t1 W)
      have HRQ := Lib.hid (fun W1 hb => HYR.out (2 + q) _ wr W1 HX.out HJS.out hb)
      clear hw0 hw1 hp0 hp1 hj0 hj1
      obtain ⟨x0, x1, x2⟩ := x
      unfold ldV at CA
      dsimp only at c0 c1 c2 CA HRQ 
      generalize up (t + x2) x1 = u at CA HRQ 

      clear hx hok HX 
      have hbx : But No wr (wr.alloc (.cells #[.int .i64 x0, .int .i64 x1, .int .i64 x2] 33)) := (But.refl No wr).alloc _
      have f0 := (Blk.new wr #[.int .i64 x0, .int .i64 x1, .int .i64 x2] 33).cell (o := 0) rfl
      have f1 := (Blk.new wr #[.int .i64 x0, .int .i64 x1, .int .i64 x2] 33).cell (o := 1) rfl
      have f2 := (Blk.new wr #[.int .i64 x0, .int .i64 x1, .int .i64 x2] 33).cell (o := 2) rfl
      have f5 := cell_keep e5 hbx


      have HBX := Lib.hid hbx
      clear hbx
      gi_wp2
      generalize wr.alloc (.cells #[.int .i64 x0, .int .i64 x1, .int .i64 x2] 33) = wx at HBX f0 f1 f2 f5  ⊢
      have HF0 := Lib.hid f0
      clear c0 c1 c2 e0 e1 e2 e3 e4 e5
      have hfol : Try.prog.follows .mixedOrders = true := by kernel_rfl
      gi_region_with_o (first | (refine ⟨trivial, ?_⟩; gi_at_call 31; refine (callsIn_wide.2 (CA.out _)).mono ?_; rintro e wC ⟨rfl, hbC⟩; have HBC : Hid (But No wx wC) := Lib.hid (by first | exact hbC | exact (But.refl No wx).drew.trans hbC); clear hbC; have fC := cell_keep HF0.out HBC.out; obtain ⟨fn, tmps, assign, body, hy, hR⟩ := HRQ.out wC (HBX.out.trans HBC.out); have HR := Lib.hid hR; clear hR) | (refine HR.out.mono ?_; rintro e W3 ⟨g, rfl, hg⟩; have HG := Lib.hid hg; clear hg))
      all_goals (
        clear fC f0 f1 f2 f5  hy HR CA
        have HBC := Lib.hid (HBR.out.trans (HBX.out.trans HBC.out).no)
        cases g with
        | true =>
          have HG2 : Hid (J ((rqs own bl rl t a b).attach.take ((2 + q) + 1)) W3 ∧ But S wC W3) := Lib.hid (by rcases HG.out with ⟨_, h⟩ | ⟨h, _⟩; exact h; cases h)
          have HB3 : Hid (But S w W3) := Lib.hid (HBC.out.trans HG2.out.2)
          clear HG
          gi_wp2
          go_roundw
          case rel => exact ⟨q + 1, by omega, by go_num, HG2.out.1, HB3.out⟩
          case measure => simp [intOf]; omega
        | false =>
          have HG2 : Hid (∃ pre, pre <+: (rqs own bl rl t a b).attach ∧ Jx pre W3) := Lib.hid (by rcases HG.out with ⟨h, _⟩ | ⟨_, h⟩; cases h; exact h)
          clear HG
          gi_wp2
          refine bodyPost_ret (results_none rfl _ _ _) rfl ?_
          exact ⟨⟨_, rfl⟩, .inr HG2.out⟩)
    · have hqn : q = m := by omega
      have b3 : decide ((q : Int) < (m : Int)) = false := by simp; omega
      have HJ4 : Hid (J ((rqs own bl rl t a b).attach.take (2 + (m + 0))) wr) := Lib.hid (by rw [← hqn]; exact HJS.out)
      have HB4 := HBR
      clear hqn HJS HBR
      gi_wp2
      gi_loopw [39] (fun j w3 => ∃ q : Nat, q ≤ k ∧ j = .int .i64 (q : Int) ∧ Hid (J ((rqs own bl rl t a b).attach.take (2 + (m + q))) w3) ∧ Hid (But S w w3)) (fun j _ => k - (intOf j).toNat)
      case atStart => exact ⟨0, by omega, rfl, HJ4.out, HB4.out⟩
      case round =>
        obtain ⟨q, hq, rfl, HJS, HBR⟩ := hrel
        clear e0 e1 e2 e3 e4 e5
        obtain ⟨⟨e0, e1, e2⟩, ⟨e3, e4⟩, e5⟩ := HC.out wr HBR.out
        by_cases hqm : q < k
        · have hqm2 : (q : Int) < (k : Int) := by omega
          have hq0 : (0 : Int) ≤ (q : Int) := Int.natCast_nonneg q
          have b3 : decide ((q : Int) < (k : Int)) = true := by simp; omega
          obtain ⟨x, hx⟩ : ∃ x, b[q]? = some x := ⟨_, List.getElem?_eq_getElem (by rw [HNB.out]; exact hqm)⟩
          obtain ⟨bk, off, rfl, _, c0, c1, c2⟩ := (HBS.out wr HBR.out).at1 hx
          have HX := rqs_b (own := own) (bl := bl) (rl := rl) (t := t) (a := a) hx
          rw [HNA.out] at HX
          have HX := Lib.hid HX
          have hok := HOB.out x (List.mem_of_getElem? hx)
          obtain ⟨⟨hw0, hw1⟩, ⟨hp0, hp1⟩, hj0, hj1⟩ := okD_iff.1 hok
          have CA := Lib.hid (fun W => arr_any x t hok t0 t1 W)
          have HRQ := Lib.hid (fun W1 hb => HYR.out (2 + (m + q)) _ wr W1 HX.out HJS.out hb)
          have hu : 0 ≤ up (t + x.j) x.p ∧ up (t + x.j) x.p ≤ t + x.j := up_bd (by omega) hp0
          have hw9 : IntKind.i64.wrap (up (t + x.j) x.p + 1) = up (t + x.j) x.p + 1 := IntWalk.i64_in _ (by omega)
          clear hw0 hw1 hp0 hp1 hj0 hj1
          obtain ⟨x0, x1, x2⟩ := x
          unfold ldV at CA
          dsimp only at c0 c1 c2 CA HRQ hu hw9
          generalize up (t + x2) x1 = u at CA HRQ hu hw9
          rw [← hw9] at HRQ
          clear hx hok HX hw9 hu
          have hbx : But No wr (wr.alloc (.cells #[.int .i64 x0, .int .i64 x1, .int .i64 x2] 33)) := (But.refl No wr).alloc _
          have f0 := (Blk.new wr #[.int .i64 x0, .int .i64 x1, .int .i64 x2] 33).cell (o := 0) rfl
          have f1 := (Blk.new wr #[.int .i64 x0, .int .i64 x1, .int .i64 x2] 33).cell (o := 1) rfl
          have f2 := (Blk.new wr #[.int .i64 x0, .int .i64 x1, .int .i64 x2] 33).cell (o := 2) rfl
          have f5 := cell_keep e5 hbx
          have f6 := cell_keep e2 hbx
          have HE2 := Lib.hid e2
          have HBX := Lib.hid hbx
          clear hbx
          gi_wp2
          generalize wr.alloc (.cells #[.int .i64 x0, .int .i64 x1, .int .i64 x2] 33) = wx at HBX f0 f1 f2 f5 f6 ⊢
          have HF0 := Lib.hid f0
          clear c0 c1 c2 e0 e1 e2 e3 e4 e5
          have hfol : Try.prog.follows .mixedOrders = true := by kernel_rfl
          gi_region_with_o (first | (refine ⟨trivial, ?_⟩; gi_at_call 31; refine (callsIn_wide.2 (CA.out _)).mono ?_; rintro e wC ⟨rfl, hbC⟩; have HBC : Hid (But No wx wC) := Lib.hid (by first | exact hbC | exact (But.refl No wx).drew.trans hbC); clear hbC; have fC := cell_keep HE2.out (HBX.out.trans HBC.out); obtain ⟨fn, tmps, assign, body, hy, hR⟩ := HRQ.out wC (HBX.out.trans HBC.out); have HR := Lib.hid hR; clear hR) | (refine HR.out.mono ?_; rintro e W3 ⟨g, rfl, hg⟩; have HG := Lib.hid hg; clear hg))
          all_goals (
            clear fC f0 f1 f2 f5 f6 hy HR CA
            have HBC := Lib.hid (HBR.out.trans (HBX.out.trans HBC.out).no)
            cases g with
            | true =>
              have HG2 : Hid (J ((rqs own bl rl t a b).attach.take ((2 + (m + q)) + 1)) W3 ∧ But S wC W3) := Lib.hid (by rcases HG.out with ⟨_, h⟩ | ⟨h, _⟩; exact h; cases h)
              have HB3 : Hid (But S w W3) := Lib.hid (HBC.out.trans HG2.out.2)
              clear HG
              gi_wp2
              go_roundw
              case rel => exact ⟨q + 1, by omega, by go_num, HG2.out.1, HB3.out⟩
              case measure => simp [intOf]; omega
            | false =>
              have HG2 : Hid (∃ pre, pre <+: (rqs own bl rl t a b).attach ∧ Jx pre W3) := Lib.hid (by rcases HG.out with ⟨h, _⟩ | ⟨_, h⟩; cases h; exact h)
              clear HG
              gi_wp2
              refine bodyPost_ret (results_none rfl _ _ _) rfl ?_
              exact ⟨⟨_, rfl⟩, .inr HG2.out⟩)
        · have hqn : q = k := by omega
          have b3 : decide ((q : Int) < (k : Int)) = false := by simp; omega
          have htk : (rqs own bl rl t a b).attach.take (2 + (m + q)) = (rqs own bl rl t a b).attach := by rw [hqn]; exact List.take_of_length_le (by rw [List.length_attach, HLEN.out]; exact Nat.le_refl _)
          rw [htk] at HJS
          clear hqn htk
          gi_wp2
          go_end0
          exact ⟨⟨_, rfl⟩, .inl ⟨_, rfl, HJS.out⟩⟩
/-- What the iterator hands over. -/
theorem req_stops (n : Nat) (hn : 1 ≤ n) (Bs Bn : Nat) (own bl rl t : Int) (A : Option Addr) (m c : Nat) (a : List Ld) (B : Option Addr) (k d : Nat) (b : List Ld) (W0 : World) (hA : RLd W0 A m a) (hB : RLd W0 B k b) (S : Nat → Prop) (hSA : 0 < m → ∀ b off, A = some ⟨b, off, none⟩ → ¬ S b) (hSB : 0 < k → ∀ b off, B = some ⟨b, off, none⟩ → ¬ S b) (hSs : ¬ S Bs) (hSn : ¬ S Bn)
    (hokA : ∀ x ∈ a, okD x = true) (hokB : ∀ x ∈ b, okD x = true) (t0 : 0 ≤ t) (t1 : t ≤ 4611686018427387904)
    (hBs : Blk W0 Bs #[.int .i64 own, .int .i64 bl, .int .i64 rl, .slice A m c, .slice B k d] 38) (hBn : Blk W0 Bn #[.int .i64 t] 3) :
    SeqStopsK Fence.wide n Try.prog 30 #[.pointer (some ⟨Bs, 0, none⟩), .pointer (some ⟨Bn, 0, none⟩)] (fun x : {p : Int × Int // p ∈ rqs own bl rl t a b} => #[.int .i64 x.1.1, .int .i64 x.1.2]) (But S) (fun ys => ys = (rqs own bl rl t a b).attach) (fun pre => pre <+: (rqs own bl rl t a b).attach) (rqs own bl rl t a b).length W0 := fun lp J Jx W hW hJ _ hY h0 =>
  req1_in n hn lp Bs Bn own bl rl t A m c a B k d b W0 hA hB S hSA hSB hSs hSn hokA hokB t0 t1 J Jx W (but_below hW).no hJ hY hBs hBn h0
/-- The call that makes the iterator: the job and the ticks lie in boxes. -/
theorem req_any (own bl rl t : Int) (A : Option Addr) (m c : Nat) (B : Option Addr) (k d : Nat) (w : World) : Calls Try.prog 24 #[jobV own bl rl A m c B k d, .int .i64 t] w fun e w' => e = .returned (.func (.func 30) #[] #[.pointer (some ⟨w.heap.size, 0, none⟩), .pointer (some ⟨w.heap.size + 1, 0, none⟩)]) ∧ w' = (w.alloc (.cells #[.int .i64 own, .int .i64 bl, .int .i64 rl, .slice A m c, .slice B k d] 38)).alloc (.cells #[.int .i64 t] 3) := by
  have hmf : ∀ (fn : Fn) (first cap : Array Value) (w : World), (Instr.makeFunc fn first cap).run Try.prog w = .ok (.func fn first cap) w := fun _ _ _ _ => rfl
  unfold jobV
  go_enter Try.func24, Try.ntmps24
  go_wp2
  go_ret
  exact ⟨rfl, rfl⟩
end Go.Proofs.Ytnjkgalbbhmgjaa.rsp
