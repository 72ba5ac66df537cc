/- What is put in comes out by keys, of one key in the order in which it was put in; all of it, once: HeapSorts returns true. (The walk.) -/
import Derived.Test.YtlnoelahlbbgkaaHeapRoomW
namespace Go.Proofs.Ytlnoelahlbbgkaa
open Go.ChangeShapes Go.WideShapes Go.ChangeAt Go.RowKit
/-- The first i numbers put in one behind the other. -/
def Ls (z : Nat → Int) : Nat → List It
  | 0 => []
  | i + 1 => ins ⟨i, z i, (i : Int) + 1⟩ (Ls z i)
def gz (z : Nat → Int) (j : Nat) : It := ⟨j, z j, (j : Int) + 1⟩
theorem mem_Ls {z : Nat → Int} : ∀ {i : Nat} {x : It}, x ∈ Ls z i ↔ ∃ j, j < i ∧ x = gz z j
  | 0, x => by simp [Ls]
  | i + 1, x => by
    rw [Ls, mem_ins, mem_Ls]
    constructor
    · rintro (rfl | ⟨j, hj, rfl⟩)
      · exact ⟨i, by omega, rfl⟩
      · exact ⟨j, by omega, rfl⟩
    · rintro ⟨j, hj, rfl⟩
      by_cases e : j = i
      · subst e; exact .inl rfl
      · exact .inr ⟨j, by omega, rfl⟩
theorem len_Ls (z : Nat → Int) : ∀ i, (Ls z i).length = i
  | 0 => rfl
  | i + 1 => by rw [Ls, length_ins, len_Ls z i]
theorem has_Ls {z : Nat → Int} {i : Nat} {a : Int} (h : (i : Int) ≤ a) : hasI a (Ls z i) = false := by
  refine hasI_not (fun y hy => ?_)
  obtain ⟨j, hj, rfl⟩ := mem_Ls.1 hy
  show (j : Int) ≠ a
  omega
theorem push_Ls {w0 w w' : World} {S : Nat → Prop} {p i : Nat} {z : Nat → Int} (hi : i < 256) (h : Hw w0 w S p 256 i (Ls z i)) (hm : Mv w S p 256 (pushT 256 i (Ls z i) i) (pushL 256 i (Ls z i) i (z i)) w') : ∃ S', Hw w0 w' S' p 256 ((i + 1 : Nat) : Int) (Ls z (i + 1)) := by
  have e : pushE 256 (Ls z i) i = 0 := (heapRoom.pushE_of (by omega)).2.2 (has_Ls (Int.le_refl _)) (by rw [len_Ls]; omega)
  unfold pushT pushL at hm
  rw [if_pos e, if_pos e] at hm
  obtain ⟨S', h', _⟩ := h.step hm
  exact ⟨S', by rw [Int.natCast_add]; exact h'⟩
theorem pushE_Ls {z : Nat → Int} {i : Nat} (hi : i < 256) : pushE 256 (Ls z i) i = 0 := (heapRoom.pushE_of (by omega)).2.2 (has_Ls (Int.le_refl _)) (by rw [len_Ls]; omega)
namespace heapSorts
structure SS (w wr : World) (p bi nn : Nat) (z : Nat → Int) (k : Nat) (S : Nat → Prop) (T : Int) (D M : List It) (f : Nat → Bool) : Prop where
  hw : Hw w wr S p 256 T M
  cf : Cf wr bi 4 nn (fun j => .bool (f j))
  nb : ¬ S bi
  sp : Ls z nn = D ++ M
  srt : (D ++ M).Pairwise Ah
  nd : (D ++ M).Pairwise (fun a b => a.id ≠ b.id)
  len : D.length = k
  fe : ∀ j, j < nn → f j = hasI j D
  bw : w.heap.size ≤ bi
/-- The last one that was taken. -/
def Lst (D : List It) (l : Int) : Prop := (D = [] ∧ l = -1) ∨ ∃ D' y, D = D' ++ [y] ∧ l = y.id
def Rel (w wr : World) (p bi nn : Nat) (z : Nat → Int) (k : Nat) (l : Int) : Prop := ∃ S T D M f, SS w wr p bi nn z k S T D M f ∧ Lst D l
theorem SS.next {w wr w' : World} {p bi nn a : Nat} {z : Nat → Int} {k : Nat} {S : Nat → Prop} {T : Int} {D M : List It} {f : Nat → Bool} {x : It} (h : SS w wr p bi nn z k S T D (x :: M) f) (hx : x.id = (a : Int)) (hm : Mv wr S p 256 T M w') :
    Rel w (w'.setCell ⟨bi, a, none⟩ (.bool true)) p bi nn z (k + 1) a := by
  obtain ⟨S', h1, h2, h3⟩ := h.hw.step hm
  have hn : ¬ S' bi := fun hk => (h3 bi hk).elim h.nb (fun g => by have := h.cf.lt; omega)
  have hb : But (Just bi) w' (w'.setCell ⟨bi, a, none⟩ (.bool true)) := (But.refl _ _).setCell (p := ⟨bi, a, none⟩) (just bi) _
  have e : D ++ x :: M = (D ++ [x]) ++ M := by simp
  refine ⟨S', T, D ++ [x], M, fun j => if j = a then true else f j, ⟨⟨h1.hp.but hb (fun k hk e => hn (e ▸ hk)), h1.but.setNew (p := ⟨bi, a, none⟩) h.bw _, h1.new⟩, ?_, hn, by rw [h.sp, e], by rw [← e]; exact h.srt, by rw [← e]; exact h.nd, by rw [List.length_append, h.len]; rfl, fun j hj => ?_, h.bw⟩, .inr ⟨D, x, rfl, hx.symm⟩⟩
  · refine ((h.cf.but h2 h.nb).set (k := a) (.bool true)).congr (fun j hj => ?_)
    by_cases e : j = a
    · simp [e]
    · simp [e]
  · rw [h.fe j hj]
    unfold hasI
    rw [List.any_append]
    by_cases e : j = a
    · simp [e, hx]
    · simp [e, hx, show ¬ (a : Int) = (j : Int) by omega]
theorem cell_after {w wr w' : World} {p bi nn a : Nat} {z : Nat → Int} {k : Nat} {S : Nat → Prop} {T : Int} {D M : List It} {f : Nat → Bool} {x : It} (h : SS w wr p bi nn z k S T D (x :: M) f) (ha : a < nn) (hx : x.id = (a : Int)) (hm : Mv wr S p 256 T M w') :
    w'.cell? ⟨bi, a, none⟩ = some (.bool false) ∧ w'.frozen? ⟨bi, a, none⟩ = false := by
  obtain ⟨S', h1, h2, h3⟩ := h.hw.step hm
  have hc := h.cf.but h2 h.nb
  refine ⟨?_, hc.frozen a⟩
  rw [hc.cell ha, h.fe a ha]
  have : hasI (a : Int) D = false := hasI_not (fun y hy e => (List.pairwise_append.1 h.nd).2.2 y hy x List.mem_cons_self (by rw [e, hx]))
  rw [this]
theorem lst_ok {D M : List It} {x : It} {z : Nat → Int} {nn : Nat} {l : Int} (hsp : Ls z nn = D ++ x :: M) (hs : (D ++ x :: M).Pairwise Ah) (hl : Lst D l) : l = -1 ∨ ∃ b : Nat, b < nn ∧ l = b ∧ ¬ x.key < z b ∧ (z b = x.key → (b : Int) < x.id) := by
  rcases hl with ⟨_, h⟩ | ⟨D', y, rfl, rfl⟩
  · exact .inl h
  · refine .inr ?_
    have hy : y ∈ Ls z nn := by rw [hsp]; simp
    have hx : x ∈ Ls z nn := by rw [hsp]; simp
    obtain ⟨b, hb, rfl⟩ := mem_Ls.1 hy
    obtain ⟨a, ha, rfl⟩ := mem_Ls.1 hx
    have := (List.pairwise_append.1 hs).2.2 (gz z b) (by simp) (gz z a) List.mem_cons_self
    unfold Ah gz at this
    simp only at this
    refine ⟨b, hb, rfl, ?_, fun e => ?_⟩
    · show ¬ z a < z b; omega
    · have e' : z b = z a := e
      show (b : Int) < (a : Int); omega
set_option maxHeartbeats 8000000 in
set_option maxRecDepth 100000 in
theorem walkS (A : Option Addr) (nn c : Nat) (zs : List Int) (hnc : nn ≤ c) (nn2 : nn ≤ 200) (w : World) (hz : Rd w A nn zs) :
    Calls Try.prog 4 #[.slice A nn c] w fun e w' => e = .returned (.bool true) ∧ But No w w' := by
  obtain ⟨z, hzz⟩ : ∃ z : Nat → Int, z = fun j => zs.getD j 0 := ⟨_, rfl⟩
  have nnc : (nn : Int) ≤ (c : Int) := by omega
  have nsm : (nn : Int) ≤ 200 := by omega
  have HZ : Hid (∀ w', But No w w' → ∀ j, j < nn → ∃ b off, A = some ⟨b, off, none⟩ ∧ w'.cell? ⟨b, off + j, none⟩ = some (.int .i64 (z j))) := by
    intro w' hb j hj
    obtain ⟨b, off, e, _, hc⟩ := (hz.no hb).at_ (by omega)
    exact ⟨b, off, e, by rw [hzz]; exact hc j (by omega)⟩
  obtain ⟨i0, hi0, hz0, hz1, hz2⟩ := info_parts info4
  have I0 : Hid (Try.prog.info? 4 = some i0 ∧ i0.zero = some (.bool false) ∧ i0.size = 1 ∧ i0.bytes = 1) := ⟨hi0, hz0, hz1, hz2⟩
  clear hi0 hz0 hz1 hz2 hz hzz
  go_enter Try.func4, Try.ntmps4
  go_wp2_with (first
    | (go_at_call 9; refine (examples_any _).mono ?_; rintro e we ⟨rfl, hbe⟩; have HE := Lib.hid hbe; clear hbe)
    | (go_at_call 10; refine (new_ok 256 _ (by omega) (by omega)).mono ?_; rintro e w1 ⟨rfl, hne⟩; have HN1 := Lib.hid hne; clear hne))
  have H1 : Hid (∃ S, Hw w w1 S (we.heap.size + 1) 256 ((0 : Nat) : Int) (Ls z 0)) := by
    obtain ⟨S, hp, hb, hs⟩ := HN1.out
    exact ⟨S, hp, HE.out.trans hb, fun k hk => Nat.le_trans HE.out.size (hs k hk)⟩
  clear HN1
  generalize hp : we.heap.size + 1 = p at H1 ⊢
  clear hp
  go_loopw [6] (fun s wr => ∃ i : Nat, s = .int .i64 i ∧ i ≤ nn ∧ Hid (∃ S, Hw w wr S p 256 i (Ls z i))) (fun s _ => nn - (intOf s).toNat)
  case atStart => exact ⟨0, rfl, by omega, H1⟩
  case round =>
    obtain ⟨i, rfl, hin, hex⟩ := hrel
    clear H1
    by_cases hlt : i < nn
    · obtain ⟨S, hs⟩ := hex.out
      have HS := Lib.hid hs
      obtain ⟨b, off, rfl, hcell⟩ := HZ.out _ hs.but i hlt
      clear hs hex
      have hi' : (i : Int) < (nn : Int) := by omega
      obtain ⟨zi, hzi⟩ : ∃ zi, zi = z i := ⟨_, rfl⟩
      rw [← hzi] at hcell
      have HZI := Lib.hid hzi
      have HPE := Lib.hid (pushE_Ls (z := z) (i := i) (by omega))
      have CPU : Hid (Calls Try.prog 13 #[.pointer (some ⟨p, 0, none⟩), .int .i64 i, .int .i64 zi] wr fun e w' => e = .returned (.int .i64 0) ∧ Mv wr S p 256 (pushT 256 i (Ls z i) i) (pushL 256 i (Ls z i) i (z i)) w') := by
        have := push_any p 256 i (Ls z i) S wr i zi (inR_small (by omega)) HS.out.hp (by omega)
        rw [HPE.out, hzi] at this
        rw [hzi]; exact this
      clear hzi
      go_wp2_with (go_at_call 13; refine CPU.out.mono ?_; rintro e w3 ⟨rfl, hm⟩; have HM := Lib.hid hm; clear hm)
      go_roundw
      case rel => exact ⟨i + 1, by go_num, by omega, push_Ls (by omega) HS.out HM.out⟩
      case measure => simp [intOf]; omega
    · obtain rfl : i = nn := by omega
      clear hlt
      go_wp2_with (at_make; refine wpList_make_full _ rfl _ _ 49 rfl 0 4 i0 _ 1 Try.underlying49 I0.out.1 I0.out.2.1 I0.out.2.2.1 .i64 .i64 _ _ i rfl rfl (by omega) (by omega) (by rw [I0.out.2.2.2]; omega) (by unfold maxLen; omega) (Nat.zero_le _) ?_; intro w2 hown2 hgrow2; have HOW := Lib.hid hown2; have HGR := Lib.hid hgrow2; clear hown2 hgrow2)
      have H2 : Hid (Rel w w2 p wr.heap.size i z 0 (-1)) := by
        obtain ⟨S, hs⟩ := hex.out
        have hb2 : But No wr w2 := (But.refl No wr).grown HGR.out (fun k e => by cases e)
        exact ⟨S, _, [], Ls z i, fun _ => false, ⟨hs.no hb2, cf_made HOW.out, fun hk => by have := hs.hp.lt _ hk; omega, rfl, hs.hp.srt, hs.hp.nd, rfl, fun j _ => rfl, hs.but.size⟩, .inl ⟨rfl, rfl⟩⟩
      clear hex HGR HOW
      generalize hbi : wr.heap.size = bi at H2 ⊢
      clear hbi
      go_loopw [8, 9] (fun s8 s9 wr => ∃ (l : Int) (k : Nat), s8 = .int .i64 l ∧ s9 = .int .i64 k ∧ k ≤ i ∧ Hid (Rel w wr p bi i z k l)) (fun _ s _ => i - (intOf s).toNat)
      case atStart => exact ⟨-1, 0, rfl, rfl, by omega, H2⟩
      case round =>
        obtain ⟨l, k, rfl, rfl, hk, hrel⟩ := hrel
        clear H2
        obtain ⟨S, T, D, M, f, hs, hlst⟩ := hrel.out
        have hlen : D.length + M.length = i := by have := congrArg List.length hs.sp; rw [len_Ls, List.length_append] at this; omega
        have hDk := hs.len
        clear hrel
        by_cases hlt : k < i
        · cases M with
          | nil => simp at hlen; omega
          | cons x M =>
            have hxm : x ∈ Ls z i := by rw [hs.sp]; simp
            obtain ⟨a, ha, hxa⟩ := mem_Ls.1 hxm
            have hlo := lst_ok hs.sp hs.srt hlst
            obtain ⟨b, off, rfl, hcell⟩ := HZ.out _ hs.hw.but a ha
            have hxi : x.id = (a : Int) := by rw [hxa]; rfl
            have hxk : x.key = z a := by rw [hxa]; rfl
            rw [hxi, hxk] at hlo
            have CPop : Hid (Calls Try.prog 15 #[.pointer (some ⟨p, 0, none⟩)] wr fun e w' => e = .returned (.tuple #[.int .i64 (a : Int), .int .i64 (z a), .bool true]) ∧ Mv wr S p 256 T M w') := by
              have := pop_any p 256 T (x :: M) S wr hs.hw.hp
              simp only [fst1, fst2, fst3, List.tail_cons, hxi, hxk] at this
              exact this
            have HS := Lib.hid hs
            have HXI := Lib.hid hxi
            have CZ : Hid (∀ w', Mv wr S p 256 T M w' → ∀ j, j < i → w'.cell? ⟨b, off + j, none⟩ = some (.int .i64 (z j))) := by
              intro w' hm j hj
              obtain ⟨S', h', _⟩ := HS.out.hw.step hm
              obtain ⟨b', off', e, hc⟩ := HZ.out w' h'.but j hj
              cases e; exact hc
            generalize hza : z a = za at CPop hcell hlo
            have HZA := Lib.hid hza
            have ha' : (a : Int) < (i : Int) := by omega
            have hki : (k : Int) < (i : Int) := by omega
            have a0 : (0 : Int) ≤ (a : Int) := by omega
            clear hs hxm hxa hxi hxk hlst hza hlen hDk
            rcases hlo with rfl | ⟨lb, hlb, rfl, hl1, hl2⟩
            · go_wp2_with (go_at_call 15; refine CPop.out.mono ?_; rintro e w3 ⟨rfl, hm⟩; obtain ⟨hcs, hfs⟩ := cell_after HS.out ha HXI.out hm; have hcz := CZ.out _ hm a ha; rw [HZA.out] at hcz; have HM := Lib.hid hm; clear hm)
              go_roundw
              case rel => exact ⟨a, k + 1, rfl, by go_num, by omega, HS.out.next HXI.out HM.out⟩
              case measure => simp [intOf]; omega
            · obtain ⟨zb, hzb⟩ : ∃ zb, zb = z lb := ⟨_, rfl⟩
              rw [← hzb] at hl1 hl2
              have HZB := Lib.hid hzb
              clear hzb
              have hlb' : (lb : Int) < (i : Int) := by omega
              have l0 : (0 : Int) ≤ (lb : Int) := by omega
              have t1 : decide (za < zb) = false := by simp; omega
              have t1' : ¬ za < zb := hl1
              by_cases hq : zb = za
              · have t2 : (zb == za) = true := by simpa using hq
                have hl3 := hl2 hq
                have t3 : decide ((a : Int) < (lb : Int)) = false := by simp; omega
                have t3' : ¬ (a : Int) < (lb : Int) := by omega
                clear hq hl2 hl1
                go_wp2_with (go_at_call 15; refine CPop.out.mono ?_; rintro e w3 ⟨rfl, hm⟩; obtain ⟨hcs, hfs⟩ := cell_after HS.out ha HXI.out hm; have hcz := CZ.out _ hm a ha; rw [HZA.out] at hcz; have hcb := CZ.out _ hm lb hlb; rw [← HZB.out] at hcb; have HM := Lib.hid hm; clear hm)
                go_roundw
                case rel => exact ⟨a, k + 1, rfl, by go_num, by omega, HS.out.next HXI.out HM.out⟩
                case measure => simp [intOf]; omega
              · have t2 : (zb == za) = false := by simpa using hq
                clear hl2 hl1
                go_wp2_with (go_at_call 15; refine CPop.out.mono ?_; rintro e w3 ⟨rfl, hm⟩; obtain ⟨hcs, hfs⟩ := cell_after HS.out ha HXI.out hm; have hcz := CZ.out _ hm a ha; rw [HZA.out] at hcz; have hcb := CZ.out _ hm lb hlb; rw [← HZB.out] at hcb; have HM := Lib.hid hm; clear hm)
                go_roundw
                case rel => exact ⟨a, k + 1, rfl, by go_num, by omega, HS.out.next HXI.out HM.out⟩
                case measure => simp [intOf]; omega
        · have hM : M = [] := List.eq_nil_of_length_eq_zero (by omega)
          subst hM
          have HW := Lib.hid hs.hw
          clear hs hlst hlen hDk
          have b1 : decide ((k : Int) < (i : Int)) = false := by simp; omega
          have CPop : Hid (Calls Try.prog 15 #[.pointer (some ⟨p, 0, none⟩)] wr fun e w' => e = .returned (.tuple #[.int .i64 0, .int .i64 0, .bool false]) ∧ Mv wr S p 256 T [] w') := pop_any p 256 T [] S wr HW.out.hp
          go_wp2_with (first
            | (go_at_call 15; refine CPop.out.mono ?_; rintro e w3 ⟨rfl, hm⟩; obtain ⟨S3, h3, _⟩ := HW.out.step hm; have H3 := Lib.hid h3; clear hm h3)
            | (go_at_call 28; refine (len_any p 256 T [] S3 _ H3.out.hp).mono ?_; rintro e w4 ⟨rfl, rfl⟩))
          go_ret
          exact ⟨rfl, H3.out.but⟩
set_option maxHeartbeats 8000000 in
set_option maxRecDepth 100000 in
theorem walkB (A : Option Addr) (n c : Nat) (zs : List Int) (hnc : n ≤ c) (nn2 : 200 < n) (w : World) (hz : Rd w A n zs) :
    Calls Try.prog 4 #[.slice A n c] w fun e w' => e = .returned (.bool true) ∧ But No w w' := by
  obtain ⟨z, hzz⟩ : ∃ z : Nat → Int, z = fun j => zs.getD j 0 := ⟨_, rfl⟩
  obtain ⟨nn, hnn⟩ : ∃ nn : Nat, nn = 200 := ⟨_, rfl⟩
  have hmax := hz.max
  have nnc : (200 : Int) ≤ (c : Int) := by omega
  have nsm : (200 : Int) < (n : Int) := by omega
  have HNN := Lib.hid hnn
  have nle : nn ≤ 200 := by omega
  have nge : 200 ≤ nn := by omega
  have HZ : Hid (∀ w', But No w w' → ∀ j, j < nn → ∃ b off, A = some ⟨b, off, none⟩ ∧ w'.cell? ⟨b, off + j, none⟩ = some (.int .i64 (z j))) := by
    intro w' hb j hj
    obtain ⟨b, off, e, _, hc⟩ := (hz.no hb).at_ (by omega)
    exact ⟨b, off, e, by rw [hzz]; exact hc j (by omega)⟩
  obtain ⟨i0, hi0, hz0, hz1, hz2⟩ := info_parts info4
  have I0 : Hid (Try.prog.info? 4 = some i0 ∧ i0.zero = some (.bool false) ∧ i0.size = 1 ∧ i0.bytes = 1) := ⟨hi0, hz0, hz1, hz2⟩
  clear hi0 hz0 hz1 hz2 hz hzz hnn
  go_enter Try.func4, Try.ntmps4
  go_wp2_with (first
    | (go_at_call 9; refine (examples_any _).mono ?_; rintro e we ⟨rfl, hbe⟩; have HE := Lib.hid hbe; clear hbe)
    | (go_at_call 10; refine (new_ok 256 _ (by omega) (by omega)).mono ?_; rintro e w1 ⟨rfl, hne⟩; have HN1 := Lib.hid hne; clear hne))
  simp only [show Value.slice A 200 c = Value.slice A nn c from by rw [HNN.out]]
  clear HNN
  have H1 : Hid (∃ S, Hw w w1 S (we.heap.size + 1) 256 ((0 : Nat) : Int) (Ls z 0)) := by
    obtain ⟨S, hp, hb, hs⟩ := HN1.out
    exact ⟨S, hp, HE.out.trans hb, fun k hk => Nat.le_trans HE.out.size (hs k hk)⟩
  clear HN1
  generalize hp : we.heap.size + 1 = p at H1 ⊢
  clear hp
  go_loopw [6] (fun s wr => ∃ i : Nat, s = .int .i64 i ∧ i ≤ nn ∧ Hid (∃ S, Hw w wr S p 256 i (Ls z i))) (fun s _ => nn - (intOf s).toNat)
  case atStart => exact ⟨0, rfl, by omega, H1⟩
  case round =>
    obtain ⟨i, rfl, hin, hex⟩ := hrel
    clear H1
    by_cases hlt : i < nn
    · obtain ⟨S, hs⟩ := hex.out
      have HS := Lib.hid hs
      obtain ⟨b, off, rfl, hcell⟩ := HZ.out _ hs.but i hlt
      clear hs hex
      have hi' : (i : Int) < (nn : Int) := by omega
      obtain ⟨zi, hzi⟩ : ∃ zi, zi = z i := ⟨_, rfl⟩
      rw [← hzi] at hcell
      have HZI := Lib.hid hzi
      have HPE := Lib.hid (pushE_Ls (z := z) (i := i) (by omega))
      have CPU : Hid (Calls Try.prog 13 #[.pointer (some ⟨p, 0, none⟩), .int .i64 i, .int .i64 zi] wr fun e w' => e = .returned (.int .i64 0) ∧ Mv wr S p 256 (pushT 256 i (Ls z i) i) (pushL 256 i (Ls z i) i (z i)) w') := by
        have := push_any p 256 i (Ls z i) S wr i zi (inR_small (by omega)) HS.out.hp (by omega)
        rw [HPE.out, hzi] at this
        rw [hzi]; exact this
      clear hzi
      go_wp2_with (go_at_call 13; refine CPU.out.mono ?_; rintro e w3 ⟨rfl, hm⟩; have HM := Lib.hid hm; clear hm)
      go_roundw
      case rel => exact ⟨i + 1, by go_num, by omega, push_Ls (by omega) HS.out HM.out⟩
      case measure => simp [intOf]; omega
    · obtain rfl : i = nn := by omega
      clear hlt
      go_wp2_with (at_make; refine wpList_make_full _ rfl _ _ 49 rfl 0 4 i0 _ 1 Try.underlying49 I0.out.1 I0.out.2.1 I0.out.2.2.1 .i64 .i64 _ _ i rfl rfl (by omega) (by omega) (by rw [I0.out.2.2.2]; omega) (by unfold maxLen; omega) (Nat.zero_le _) ?_; intro w2 hown2 hgrow2; have HOW := Lib.hid hown2; have HGR := Lib.hid hgrow2; clear hown2 hgrow2)
      have H2 : Hid (Rel w w2 p wr.heap.size i z 0 (-1)) := by
        obtain ⟨S, hs⟩ := hex.out
        have hb2 : But No wr w2 := (But.refl No wr).grown HGR.out (fun k e => by cases e)
        exact ⟨S, _, [], Ls z i, fun _ => false, ⟨hs.no hb2, cf_made HOW.out, fun hk => by have := hs.hp.lt _ hk; omega, rfl, hs.hp.srt, hs.hp.nd, rfl, fun j _ => rfl, hs.but.size⟩, .inl ⟨rfl, rfl⟩⟩
      clear hex HGR HOW
      generalize hbi : wr.heap.size = bi at H2 ⊢
      clear hbi
      go_loopw [8, 9] (fun s8 s9 wr => ∃ (l : Int) (k : Nat), s8 = .int .i64 l ∧ s9 = .int .i64 k ∧ k ≤ i ∧ Hid (Rel w wr p bi i z k l)) (fun _ s _ => i - (intOf s).toNat)
      case atStart => exact ⟨-1, 0, rfl, rfl, by omega, H2⟩
      case round =>
        obtain ⟨l, k, rfl, rfl, hk, hrel⟩ := hrel
        clear H2
        obtain ⟨S, T, D, M, f, hs, hlst⟩ := hrel.out
        have hlen : D.length + M.length = i := by have := congrArg List.length hs.sp; rw [len_Ls, List.length_append] at this; omega
        have hDk := hs.len
        clear hrel
        by_cases hlt : k < i
        · cases M with
          | nil => simp at hlen; omega
          | cons x M =>
            have hxm : x ∈ Ls z i := by rw [hs.sp]; simp
            obtain ⟨a, ha, hxa⟩ := mem_Ls.1 hxm
            have hlo := lst_ok hs.sp hs.srt hlst
            obtain ⟨b, off, rfl, hcell⟩ := HZ.out _ hs.hw.but a ha
            have hxi : x.id = (a : Int) := by rw [hxa]; rfl
            have hxk : x.key = z a := by rw [hxa]; rfl
            rw [hxi, hxk] at hlo
            have CPop : Hid (Calls Try.prog 15 #[.pointer (some ⟨p, 0, none⟩)] wr fun e w' => e = .returned (.tuple #[.int .i64 (a : Int), .int .i64 (z a), .bool true]) ∧ Mv wr S p 256 T M w') := by
              have := pop_any p 256 T (x :: M) S wr hs.hw.hp
              simp only [fst1, fst2, fst3, List.tail_cons, hxi, hxk] at this
              exact this
            have HS := Lib.hid hs
            have HXI := Lib.hid hxi
            have CZ : Hid (∀ w', Mv wr S p 256 T M w' → ∀ j, j < i → w'.cell? ⟨b, off + j, none⟩ = some (.int .i64 (z j))) := by
              intro w' hm j hj
              obtain ⟨S', h', _⟩ := HS.out.hw.step hm
              obtain ⟨b', off', e, hc⟩ := HZ.out w' h'.but j hj
              cases e; exact hc
            generalize hza : z a = za at CPop hcell hlo
            have HZA := Lib.hid hza
            have ha' : (a : Int) < (i : Int) := by omega
            have hki : (k : Int) < (i : Int) := by omega
            have a0 : (0 : Int) ≤ (a : Int) := by omega
            clear hs hxm hxa hxi hxk hlst hza hlen hDk
            rcases hlo with rfl | ⟨lb, hlb, rfl, hl1, hl2⟩
            · go_wp2_with (go_at_call 15; refine CPop.out.mono ?_; rintro e w3 ⟨rfl, hm⟩; obtain ⟨hcs, hfs⟩ := cell_after HS.out ha HXI.out hm; have hcz := CZ.out _ hm a ha; rw [HZA.out] at hcz; have HM := Lib.hid hm; clear hm)
              go_roundw
              case rel => exact ⟨a, k + 1, rfl, by go_num, by omega, HS.out.next HXI.out HM.out⟩
              case measure => simp [intOf]; omega
            · obtain ⟨zb, hzb⟩ : ∃ zb, zb = z lb := ⟨_, rfl⟩
              rw [← hzb] at hl1 hl2
              have HZB := Lib.hid hzb
              clear hzb
              have hlb' : (lb : Int) < (i : Int) := by omega
              have l0 : (0 : Int) ≤ (lb : Int) := by omega
              have t1 : decide (za < zb) = false := by simp; omega
              have t1' : ¬ za < zb := hl1
              by_cases hq : zb = za
              · have t2 : (zb == za) = true := by simpa using hq
                have hl3 := hl2 hq
                have t3 : decide ((a : Int) < (lb : Int)) = false := by simp; omega
                have t3' : ¬ (a : Int) < (lb : Int) := by omega
                clear hq hl2 hl1
                go_wp2_with (go_at_call 15; refine CPop.out.mono ?_; rintro e w3 ⟨rfl, hm⟩; obtain ⟨hcs, hfs⟩ := cell_after HS.out ha HXI.out hm; have hcz := CZ.out _ hm a ha; rw [HZA.out] at hcz; have hcb := CZ.out _ hm lb hlb; rw [← HZB.out] at hcb; have HM := Lib.hid hm; clear hm)
                go_roundw
                case rel => exact ⟨a, k + 1, rfl, by go_num, by omega, HS.out.next HXI.out HM.out⟩
                case measure => simp [intOf]; omega
              · have t2 : (zb == za) = false := by simpa using hq
                clear hl2 hl1
                go_wp2_with (go_at_call 15; refine CPop.out.mono ?_; rintro e w3 ⟨rfl, hm⟩; obtain ⟨hcs, hfs⟩ := cell_after HS.out ha HXI.out hm; have hcz := CZ.out _ hm a ha; rw [HZA.out] at hcz; have hcb := CZ.out _ hm lb hlb; rw [← HZB.out] at hcb; have HM := Lib.hid hm; clear hm)
                go_roundw
                case rel => exact ⟨a, k + 1, rfl, by go_num, by omega, HS.out.next HXI.out HM.out⟩
                case measure => simp [intOf]; omega
        · have hM : M = [] := List.eq_nil_of_length_eq_zero (by omega)
          subst hM
          have HW := Lib.hid hs.hw
          clear hs hlst hlen hDk
          have b1 : decide ((k : Int) < (i : Int)) = false := by simp; omega
          have CPop : Hid (Calls Try.prog 15 #[.pointer (some ⟨p, 0, none⟩)] wr fun e w' => e = .returned (.tuple #[.int .i64 0, .int .i64 0, .bool false]) ∧ Mv wr S p 256 T [] w') := pop_any p 256 T [] S wr HW.out.hp
          go_wp2_with (first
            | (go_at_call 15; refine CPop.out.mono ?_; rintro e w3 ⟨rfl, hm⟩; obtain ⟨S3, h3, _⟩ := HW.out.step hm; have H3 := Lib.hid h3; clear hm h3)
            | (go_at_call 28; refine (len_any p 256 T [] S3 _ H3.out.hp).mono ?_; rintro e w4 ⟨rfl, rfl⟩))
          go_ret
          exact ⟨rfl, H3.out.but⟩
theorem walk (A : Option Addr) (n c : Nat) (zs : List Int) (hnc : n ≤ c) (w : World) (hz : Rd w A n zs) :
    Calls Try.prog 4 #[.slice A n c] w fun e w' => e = .returned (.bool true) ∧ But No w w' := by
  by_cases h : n ≤ 200
  · exact walkS A n c zs hnc h w hz
  · exact walkB A n c zs hnc (by omega) w hz
end heapSorts
end Go.Proofs.Ytlnoelahlbbgkaa
