/- Contracts of insertBehind and removeBehind. -/
import Derived.Test.YtfejnokljddomaaC1
namespace Go.Proofs.Ytfejnokljddomaa
open Go.ChangeShapes Go.WideShapes Go.ChangeAt Go.RowKit Go.Deep
theorem Three.elim3 {a b c k : Nat} {Q : Prop} (h : Three a b c k) (h1 : k = a → Q) (h2 : k = b → Q) (h3 : k = c → Q) : Q := h.elim h1 (fun h => h.elim h2 h3)
theorem At.own {w : World} {p : Nat} {R : Int} {n h : Nat} {P B : List Nd} {x : Nd} (c : At w p R n h P B x) : Own p h (P ++ B) p ∧ Own p h (P ++ B) x.b ∧ (∀ z ∈ B, Own p h (P ++ B) z.b) := by
  obtain ⟨A, hA⟩ := c.ex
  unfold Own
  rw [chain_eq hA]
  refine ⟨by simp, by simp, fun z hz => ?_⟩
  exact List.mem_cons_of_mem _ (List.mem_map_of_mem (by simp [hz]))
theorem At.ne {w : World} {p : Nat} {R : Int} {n h : Nat} {P B : List Nd} {x : Nd} (c : At w p R n h P B x) : p ≠ x.b ∧ ∀ z ∈ B, z.b ≠ p ∧ z.b ≠ x.b := by
  obtain ⟨A, hA⟩ := c.ex
  have ap := c.cn.apart hA
  exact ⟨ap.px, fun z hz => ⟨ap.pB z hz, ap.xB z hz⟩⟩
/-- Behind x the chain is another one; what has changed is x, the list's own block, what stood behind x, and new. -/
theorem At.turn {w w' : World} {p : Nat} {R : Int} {n n' h : Nat} {P B B' : List Nd} {x : Nd} {S : Nat → Prop} (c : At w p R n h P B x) (hb : But S w w') (hS : ∀ k, S k → k = p ∨ k = x.b ∨ ∃ z ∈ B, k = z.b)
    (hp : Blk w' p #[.int .i64 R, .int .i64 n', .pointer (some ⟨h, 0, none⟩)] 54) (bx : Blk w' x.b (ndc x (fp B' none)) 52) (sB : Seg w' none B')
    (nB : (B'.map Nd.b).Nodup) (hB : ∀ z ∈ B', (∃ u ∈ B, u.b = z.b) ∨ w.heap.size ≤ z.b) : Cn w' p R n' h (P ++ B') ∧ But (Own p h (P ++ B)) w w' := by
  obtain ⟨A, hA⟩ := c.ex
  have ap := c.cn.apart hA
  refine ⟨c.cn.turn hA hb (fun z hz hs => ?_) hp bx sB nB hB, hb.mono (fun k _ hk => ?_)⟩
  · rcases hS _ hs with e | e | ⟨u, hu, e⟩
    · exact ap.pA z hz e
    · exact ap.xA z hz e
    · exact ap.AB z hz u hu e
  · rcases hS _ hk with rfl | rfl | ⟨u, hu, rfl⟩
    · exact c.own.1
    · exact c.own.2.1
    · exact c.own.2.2 u hu
theorem At.behindSeg {w : World} {p : Nat} {R : Int} {n h : Nat} {P B : List Nd} {x : Nd} (c : At w p R n h P B x) : Seg w none B ∧ (B.map Nd.b).Nodup := by
  obtain ⟨A, hA⟩ := c.ex
  exact ⟨(c.cn.parts hA).2.2, (c.cn.apart hA).nB⟩
theorem At.tailNe {w : World} {p : Nat} {R : Int} {n h : Nat} {P C : List Nd} {x y : Nd} (c : At w p R n h P (y :: C) x) : ∀ z ∈ C, z.b ≠ p ∧ z.b ≠ x.b ∧ z.b ≠ y.b := by
  intro z hz
  have h1 := c.ne.2 z (by simp [hz])
  have h2 := c.behindSeg.2
  rw [List.map_cons, List.nodup_cons] at h2
  exact ⟨h1.1, h1.2, fun e => h2.1 (by rw [← e]; exact List.mem_map_of_mem hz)⟩
set_option maxHeartbeats 1000000 in
theorem insert_end (p : Nat) (R : Int) (n h : Nat) (P : List Nd) (x : Nd) (w : World) (a g : Int) (c : At w p R n h P [] x) (hn : n < 1000) :
    Calls Try.prog 25 #[.pointer (some ⟨p, 0, none⟩), .pointer (some ⟨x.b, 0, none⟩), .int .i64 a, .int .i64 g] w fun r w' => r = .returned (.tuple #[]) ∧ Cn w' p R (n + 1) h (P ++ ⟨w.heap.size, a, g⟩ :: bump (-g) []) ∧ But (Own p h (P ++ [])) w w' ∧ w.heap.size < w'.heap.size := by
  have HC := Lib.hid c
  have d2 : w.cell? ⟨x.b, 2, none⟩ = some (.pointer none) := c.blk.cell (o := 2) rfl
  have c1 : w.cell? ⟨p, 1, none⟩ = some (.int .i64 n) := c.cn.hp.cell (o := 1) rfl
  have f2 := c.blk.frozen 2
  have f1 := c.cn.hp.frozen 1
  have hx : x.b < w.heap.size := c.blk.lt
  have hp : p < w.heap.size := c.cn.hp.lt
  have hne := c.ne.1
  have hn1 : (n : Int) + 1 = ((n + 1 : Nat) : Int) := by omega
  generalize n + 1 = n1 at hn1 ⊢
  clear c
  go_enter Try.func25, Try.ntmps25
  go_wp2
  go_end0
  have b0 : But (Three p x.b p) w ((w.setCell ⟨x.b, 2, none⟩ (.pointer (some ⟨w.heap.size, 0, none⟩))).setCell ⟨p, 1, none⟩ (.int .i64 n1)) := ((But.refl _ w).setCell (p := ⟨x.b, 2, none⟩) (.inr (.inl rfl)) _).setCell (p := ⟨p, 1, none⟩) (.inl rfl) _
  have hs : ((w.setCell ⟨x.b, 2, none⟩ (.pointer (some ⟨w.heap.size, 0, none⟩))).setCell ⟨p, 1, none⟩ (.int .i64 n1)).heap.size = w.heap.size := by simp [World.setCell]
  have bp := ((HC.out.cn.hp.other (a := ⟨x.b, 2, none⟩) hne (.pointer (some ⟨w.heap.size, 0, none⟩))).set 1 (.int .i64 n1)).alloc (.cells #[.int .i64 a, .int .i64 g, .pointer none] 52)
  have bx := ((HC.out.blk.set 2 (.pointer (some ⟨w.heap.size, 0, none⟩))).other (a := ⟨p, 1, none⟩) (Ne.symm hne) (.int .i64 n1)).alloc (.cells #[.int .i64 a, .int .i64 g, .pointer none] 52)
  have bq := Blk.new ((w.setCell ⟨x.b, 2, none⟩ (.pointer (some ⟨w.heap.size, 0, none⟩))).setCell ⟨p, 1, none⟩ (.int .i64 n1)) #[.int .i64 a, .int .i64 g, .pointer none] 52
  rw [hs] at bq
  obtain ⟨r1, r2⟩ := HC.out.turn (n' := n1) (B' := ⟨w.heap.size, a, g⟩ :: bump (-g) []) (b0.alloc _) (fun k hk => hk.elim3 (fun e => .inl e) (fun e => .inr (.inl e)) (fun e => .inl e)) bp bx ⟨bq, trivial⟩ (by simp [bump]) (fun z hz => .inr (by simp [bump] at hz; rw [hz]; exact Nat.le_refl _))
  exact ⟨rfl, r1, r2, by simp [World.setCell]⟩
set_option maxHeartbeats 1000000 in
theorem insert_mid (p : Nat) (R : Int) (n h : Nat) (P C : List Nd) (x y : Nd) (w : World) (a g : Int) (c : At w p R n h P (y :: C) x) (hn : n < 1000) (h0 : 0 ≤ g) (h1 : g ≤ y.gap) (h2 : y.gap ≤ 9007199254740991) :
    Calls Try.prog 25 #[.pointer (some ⟨p, 0, none⟩), .pointer (some ⟨x.b, 0, none⟩), .int .i64 a, .int .i64 g] w fun r w' => r = .returned (.tuple #[]) ∧ Cn w' p R (n + 1) h (P ++ ⟨w.heap.size, a, g⟩ :: bump (-g) (y :: C)) ∧ But (Own p h (P ++ y :: C)) w w' ∧ w.heap.size < w'.heap.size := by
  have HC := Lib.hid c
  have d2 : w.cell? ⟨x.b, 2, none⟩ = some (.pointer (some ⟨y.b, 0, none⟩)) := c.blk.cell (o := 2) rfl
  have c1 : w.cell? ⟨p, 1, none⟩ = some (.int .i64 n) := c.cn.hp.cell (o := 1) rfl
  have e1 : w.cell? ⟨y.b, 1, none⟩ = some (.int .i64 y.gap) := c.blk2.cell (o := 1) rfl
  have f2 := c.blk.frozen 2
  have f1 := c.cn.hp.frozen 1
  have f3 := c.blk2.frozen 1
  have hx : x.b < w.heap.size := c.blk.lt
  have hp : p < w.heap.size := c.cn.hp.lt
  have hy : y.b < w.heap.size := c.blk2.lt
  have hne := c.ne.1
  obtain ⟨hyp, hyx⟩ := c.ne.2 y (by simp)
  have hn1 : (n : Int) + 1 = ((n + 1 : Nat) : Int) := by omega
  generalize n + 1 = n1 at hn1 ⊢
  obtain ⟨yg, hyg⟩ : ∃ yg, y.gap = yg := ⟨_, rfl⟩
  have HG := Lib.hid hyg
  rw [hyg] at e1 h1 h2
  clear c hyg
  go_enter Try.func25, Try.ntmps25
  go_wp2
  go_end0
  have b0 : But (Three p x.b y.b) w (((w.setCell ⟨x.b, 2, none⟩ (.pointer (some ⟨w.heap.size, 0, none⟩))).setCell ⟨y.b, 1, none⟩ (.int .i64 (yg - g))).setCell ⟨p, 1, none⟩ (.int .i64 n1)) := (((But.refl _ w).setCell (p := ⟨x.b, 2, none⟩) (.inr (.inl rfl)) _).setCell (p := ⟨y.b, 1, none⟩) (.inr (.inr rfl)) _).setCell (p := ⟨p, 1, none⟩) (.inl rfl) _
  have hs : (((w.setCell ⟨x.b, 2, none⟩ (.pointer (some ⟨w.heap.size, 0, none⟩))).setCell ⟨y.b, 1, none⟩ (.int .i64 (yg - g))).setCell ⟨p, 1, none⟩ (.int .i64 n1)).heap.size = w.heap.size := by simp [World.setCell]
  have bp := (((HC.out.cn.hp.other (a := ⟨x.b, 2, none⟩) hne (.pointer (some ⟨w.heap.size, 0, none⟩))).other (a := ⟨y.b, 1, none⟩) (Ne.symm hyp) (.int .i64 (yg - g))).set 1 (.int .i64 n1)).alloc (.cells #[.int .i64 a, .int .i64 g, .pointer (some ⟨y.b, 0, none⟩)] 52)
  have bx := (((HC.out.blk.set 2 (.pointer (some ⟨w.heap.size, 0, none⟩))).other (a := ⟨y.b, 1, none⟩) (Ne.symm hyx) (.int .i64 (yg - g))).other (a := ⟨p, 1, none⟩) (Ne.symm hne) (.int .i64 n1)).alloc (.cells #[.int .i64 a, .int .i64 g, .pointer (some ⟨y.b, 0, none⟩)] 52)
  have by_ := (((HC.out.blk2.other (a := ⟨x.b, 2, none⟩) hyx (.pointer (some ⟨w.heap.size, 0, none⟩))).set 1 (.int .i64 (yg - g))).other (a := ⟨p, 1, none⟩) hyp (.int .i64 n1)).alloc (.cells #[.int .i64 a, .int .i64 g, .pointer (some ⟨y.b, 0, none⟩)] 52)
  have bq := Blk.new (((w.setCell ⟨x.b, 2, none⟩ (.pointer (some ⟨w.heap.size, 0, none⟩))).setCell ⟨y.b, 1, none⟩ (.int .i64 (yg - g))).setCell ⟨p, 1, none⟩ (.int .i64 n1)) #[.int .i64 a, .int .i64 g, .pointer (some ⟨y.b, 0, none⟩)] 52
  rw [hs] at bq
  have sC : Seg ((((w.setCell ⟨x.b, 2, none⟩ (.pointer (some ⟨w.heap.size, 0, none⟩))).setCell ⟨y.b, 1, none⟩ (.int .i64 (yg - g))).setCell ⟨p, 1, none⟩ (.int .i64 n1)).alloc (.cells #[.int .i64 a, .int .i64 g, .pointer (some ⟨y.b, 0, none⟩)] 52)) none C :=
    HC.out.behindSeg.1.2.but (b0.alloc _) (fun z hz hk => hk.elim3 (HC.out.tailNe z hz).1 (HC.out.tailNe z hz).2.1 (HC.out.tailNe z hz).2.2)
  have hg : y.gap + -g = yg - g := by rw [HG.out]; omega
  have hB := HC.out.behindSeg.2
  have hlt := HC.out.behindSeg.1.lt
  obtain ⟨r1, r2⟩ := HC.out.turn (n' := n1) (B' := ⟨w.heap.size, a, g⟩ :: bump (-g) (y :: C)) (b0.alloc _) (fun k hk => hk.elim3 (fun e => .inl e) (fun e => .inr (.inl e)) (fun e => .inr (.inr ⟨y, by simp, e⟩))) bp bx ⟨bq, by rw [bump, hg]; exact ⟨by_, sC⟩⟩
    (by
      rw [List.map_cons, bump_b, List.nodup_cons]
      refine ⟨fun hm => ?_, hB⟩
      obtain ⟨u, hu, e⟩ := List.mem_map.1 hm
      have := hlt u hu
      dsimp only at e
      omega)
    (fun z hz => by
      rcases List.mem_cons.1 hz with rfl | hz
      · exact .inr (Nat.le_refl _)
      · exact .inl (bump_mem hz))
  exact ⟨rfl, r1, r2, by simp [World.setCell]⟩
set_option maxHeartbeats 1000000 in
theorem remove_end (p : Nat) (R : Int) (n h : Nat) (P : List Nd) (x y : Nd) (w : World) (c : At w p R (n + 1) h P [y] x) (hn : n < 1000) :
    Calls Try.prog 28 #[.pointer (some ⟨p, 0, none⟩), .pointer (some ⟨x.b, 0, none⟩)] w fun r w' => r = .returned (.tuple #[]) ∧ Cn w' p R n h (P ++ bump y.gap []) ∧ But (Own p h (P ++ [y])) w w' := by
  have HC := Lib.hid c
  have d2 : w.cell? ⟨x.b, 2, none⟩ = some (.pointer (some ⟨y.b, 0, none⟩)) := c.blk.cell (o := 2) rfl
  have c1 : w.cell? ⟨p, 1, none⟩ = some (.int .i64 ((n + 1 : Nat) : Int)) := c.cn.hp.cell (o := 1) rfl
  have e2 : w.cell? ⟨y.b, 2, none⟩ = some (.pointer none) := c.blk2.cell (o := 2) rfl
  have f2 := c.blk.frozen 2
  have f1 := c.cn.hp.frozen 1
  have hne := c.ne.1
  obtain ⟨hyp, hyx⟩ := c.ne.2 y (by simp)
  have hn1 : ((n + 1 : Nat) : Int) - 1 = (n : Int) := by omega
  have hn2 : n + 1 ≤ 1000 := by omega
  generalize n + 1 = n1 at hn1 hn2 c1 HC
  clear c
  go_enter Try.func28, Try.ntmps28
  go_wp2
  go_end0
  have b0 : But (Three p x.b p) w ((w.setCell ⟨x.b, 2, none⟩ (.pointer none)).setCell ⟨p, 1, none⟩ (.int .i64 n)) := ((But.refl _ w).setCell (p := ⟨x.b, 2, none⟩) (.inr (.inl rfl)) _).setCell (p := ⟨p, 1, none⟩) (.inl rfl) _
  have bp := (HC.out.cn.hp.other (a := ⟨x.b, 2, none⟩) hne (.pointer none)).set 1 (.int .i64 n)
  have bx := (HC.out.blk.set 2 (.pointer none)).other (a := ⟨p, 1, none⟩) (Ne.symm hne) (.int .i64 n)
  obtain ⟨r1, r2⟩ := HC.out.turn (n' := n) (B' := bump y.gap []) b0 (fun k hk => hk.elim3 (fun e => .inl e) (fun e => .inr (.inl e)) (fun e => .inl e)) bp bx trivial (by simp [bump]) (fun z hz => by simp [bump] at hz)
  exact ⟨rfl, r1, r2⟩
set_option maxHeartbeats 2000000 in
theorem remove_mid (p : Nat) (R : Int) (n h : Nat) (P D : List Nd) (x y z : Nd) (w : World) (c : At w p R (n + 1) h P (y :: z :: D) x) (hn : n < 1000) (h0 : 0 ≤ y.gap) (h1 : 0 ≤ z.gap) (h2 : z.gap + y.gap ≤ 9007199254740991) :
    Calls Try.prog 28 #[.pointer (some ⟨p, 0, none⟩), .pointer (some ⟨x.b, 0, none⟩)] w fun r w' => r = .returned (.tuple #[]) ∧ Cn w' p R n h (P ++ bump y.gap (z :: D)) ∧ But (Own p h (P ++ y :: z :: D)) w w' := by
  have HC := Lib.hid c
  have d2 : w.cell? ⟨x.b, 2, none⟩ = some (.pointer (some ⟨y.b, 0, none⟩)) := c.blk.cell (o := 2) rfl
  have c1 : w.cell? ⟨p, 1, none⟩ = some (.int .i64 ((n + 1 : Nat) : Int)) := c.cn.hp.cell (o := 1) rfl
  have e2 : w.cell? ⟨y.b, 2, none⟩ = some (.pointer (some ⟨z.b, 0, none⟩)) := c.blk2.cell (o := 2) rfl
  have e1 : w.cell? ⟨y.b, 1, none⟩ = some (.int .i64 y.gap) := c.blk2.cell (o := 1) rfl
  have g1 : w.cell? ⟨z.b, 1, none⟩ = some (.int .i64 z.gap) := c.next.blk2.cell (o := 1) rfl
  have HZ := Lib.hid c.next.blk2
  have f2 := c.blk.frozen 2
  have f1 := c.cn.hp.frozen 1
  have f3 := c.next.blk2.frozen 1
  have hne := c.ne.1
  obtain ⟨hyp, hyx⟩ := c.ne.2 y (by simp)
  obtain ⟨hzp, hzx, hzy⟩ := c.tailNe z (by simp)
  have hn1 : ((n + 1 : Nat) : Int) - 1 = (n : Int) := by omega
  have hn2 : n + 1 ≤ 1000 := by omega
  generalize n + 1 = n1 at hn1 hn2 c1 HC
  obtain ⟨yg, hyg⟩ : ∃ yg, y.gap = yg := ⟨_, rfl⟩
  obtain ⟨zg, hzg⟩ : ∃ zg, z.gap = zg := ⟨_, rfl⟩
  have HG : Hid (y.gap = yg ∧ z.gap = zg) := ⟨hyg, hzg⟩
  rw [hyg] at e1 h0 h2 ⊢
  rw [hzg] at g1 h1 h2
  clear c hyg hzg
  go_enter Try.func28, Try.ntmps28
  go_wp2_with fail
  go_region
  go_wp2
  go_end0
  have b0 : But (Three p x.b z.b) w ((((w.setCell ⟨x.b, 2, none⟩ (.pointer (some ⟨z.b, 0, none⟩))).setCell ⟨z.b, 1, none⟩ (.int .i64 (zg + yg))).setCell ⟨p, 1, none⟩ (.int .i64 n)).drew) := ((((But.refl _ w).setCell (p := ⟨x.b, 2, none⟩) (.inr (.inl rfl)) _).setCell (p := ⟨z.b, 1, none⟩) (.inr (.inr rfl)) _).setCell (p := ⟨p, 1, none⟩) (.inl rfl) _).drew
  have bp := ((HC.out.cn.hp.other (a := ⟨x.b, 2, none⟩) hne (.pointer (some ⟨z.b, 0, none⟩))).other (a := ⟨z.b, 1, none⟩) (Ne.symm hzp) (.int .i64 (zg + yg))).set 1 (.int .i64 n)
  have bx := ((HC.out.blk.set 2 (.pointer (some ⟨z.b, 0, none⟩))).other (a := ⟨z.b, 1, none⟩) (Ne.symm hzx) (.int .i64 (zg + yg))).other (a := ⟨p, 1, none⟩) (Ne.symm hne) (.int .i64 n)
  have bz := ((HZ.out.other (a := ⟨x.b, 2, none⟩) hzx (.pointer (some ⟨z.b, 0, none⟩))).set 1 (.int .i64 (zg + yg))).other (a := ⟨p, 1, none⟩) hzp (.int .i64 n)
  have sD : Seg ((((w.setCell ⟨x.b, 2, none⟩ (.pointer (some ⟨z.b, 0, none⟩))).setCell ⟨z.b, 1, none⟩ (.int .i64 (zg + yg))).setCell ⟨p, 1, none⟩ (.int .i64 n)).drew) none D := by
    refine HC.out.behindSeg.1.2.2.but b0 (fun u hu hk => ?_)
    have h1 := HC.out.tailNe u (by simp [hu])
    have h2 := HC.out.next.tailNe u hu
    exact hk.elim3 h1.1 h1.2.1 h2.2.2
  have hg : z.gap + yg = zg + yg := by rw [HG.out.2]
  have hB := HC.out.behindSeg.2
  rw [List.map_cons, List.nodup_cons] at hB
  obtain ⟨r1, r2⟩ := HC.out.turn (n' := n) (B' := bump yg (z :: D)) b0 (fun k hk => hk.elim3 (fun e => .inl e) (fun e => .inr (.inl e)) (fun e => .inr (.inr ⟨z, by simp, e⟩))) bp bx (by rw [bump, hg]; exact ⟨bz, sD⟩) (by rw [bump_b]; exact hB.2)
    (fun u hu => by
      obtain ⟨v, hv, e⟩ := bump_mem hu
      exact .inl ⟨v, List.mem_cons_of_mem _ hv, e⟩)
  exact ⟨rfl, r1, r2⟩
/-- The first gap is another one. -/
theorem Cn.bump1 {w : World} {p : Nat} {R : Int} {n h : Nat} {C : List Nd} {y : Nd} {g v : Int} (c : Cn w p R n h (y :: C)) (hv : y.gap + g = v) :
    Cn (w.setCell ⟨y.b, 1, none⟩ (.int .i64 v)) p R n h (bump g (y :: C)) ∧ But (Own p h (y :: C)) w (w.setCell ⟨y.b, 1, none⟩ (.int .i64 v)) := by
  have A := At.first c
  have b0 : But (Three p p y.b) w (w.setCell ⟨y.b, 1, none⟩ (.int .i64 v)) := (But.refl _ w).setCell (p := ⟨y.b, 1, none⟩) (.inr (.inr rfl)) _
  obtain ⟨hyp, hyx⟩ := A.ne.2 y (by simp)
  have bp := c.hp.other (a := ⟨y.b, 1, none⟩) (Ne.symm hyp) (.int .i64 v)
  have bx := A.blk.other (a := ⟨y.b, 1, none⟩) (Ne.symm hyx) (.int .i64 v)
  have by_ := A.blk2.set 1 (.int .i64 v)
  have sC : Seg (w.setCell ⟨y.b, 1, none⟩ (.int .i64 v)) none C := A.behindSeg.1.2.but b0 (fun u hu hk => by
    have h1 := A.tailNe u hu
    exact hk.elim3 h1.1 h1.1 h1.2.2)
  exact A.turn (n' := n) (B' := bump g (y :: C)) b0 (fun k hk => hk.elim3 (fun e => .inl e) (fun e => .inl e) (fun e => .inr (.inr ⟨y, by simp, e⟩))) bp bx (by rw [bump, hv]; exact ⟨by_, sC⟩) (by rw [bump_b]; exact A.behindSeg.2)
    (fun u hu => by
      obtain ⟨v, hv, e⟩ := bump_mem hu
      exact .inl ⟨v, hv, e⟩)
end Go.Proofs.Ytfejnokljddomaa
