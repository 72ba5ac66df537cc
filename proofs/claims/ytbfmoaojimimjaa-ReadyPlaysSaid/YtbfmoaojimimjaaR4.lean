/- The document's queue: Remove, All, First; how it tells what the program's does. -/
import Derived.Test.YtbfmoaojimimjaaR3
namespace Go.Proofs.Ytbfmoaojimimjaa
open Go.ChangeShapes Go.WideShapes Go.ChangeAt Go.RowKit Go.Deep
theorem take_mid {l1 l2 : List One} {o : One} : (l1 ++ o :: l2).take l1.length = l1 := by simp
theorem drop_mid {l1 l2 : List One} {o : One} : (l1 ++ o :: l2).drop (l1.length + 1) = l2 := by
  rw [List.drop_append]; simp
set_option maxHeartbeats 4000000 in
set_option maxRecDepth 100000 in
theorem rrem_in (x : Nat) (R : Int) (l1 l2 : List One) (o : One) (S : Nat → Prop) (w : World) (h : RF w S x R (l1 ++ o :: l2)) (hno : ∀ y ∈ l1, y.t ≠ o.t) :
    Calls Try.prog 18 #[.pointer (some ⟨x, 0, none⟩), .int .i64 o.t] w fun r w' => r = .returned (.int .i64 0) ∧ Rm w S x R (l1 ++ l2) w' := by
  have CA := Lib.hid (at_in x R l1 l2 o S w h hno)
  have hk : l1.length < (l1 ++ o :: l2).length := by simp
  have HT : Hid ((l1 ++ o :: l2).take l1.length = l1 ∧ (l1 ++ o :: l2).drop (l1.length + 1) = l2) := ⟨take_mid, drop_mid⟩
  generalize l1 ++ o :: l2 = L at *
  obtain ⟨k, hkk⟩ : ∃ k, k = l1.length := ⟨_, rfl⟩
  rw [← hkk] at CA hk HT
  have HL1 : Hid (l1 ++ l2 = L.take k ++ L.drop (k + 1)) := by show _ = _; rw [HT.out.1, HT.out.2]
  clear hkk hno
  rw [HL1.out]
  clear HL1 HT
  generalize o.t = t at *
  have hl := h.len
  have H := Lib.hid h
  obtain ⟨v, h1, h2, h3, h4⟩ := h.ex
  obtain ⟨A, c, rfl, hc⟩ := h2.slice
  have hcell : w.cell? ⟨x, 1, none⟩ = some (.slice A L.length c) := h1.cell (o := 1) rfl
  have HX := Lib.hid h1
  have HRD := Lib.hid (Reads.of_own h2)
  obtain ⟨i0, hi0, hz0, hz1, hz2⟩ := info_parts info59
  have I0 : Hid (Try.prog.info? 59 = some i0 ∧ i0.zero = some (.agg #[.int .i64 0, .int .i64 0, .int .i64 0, .bool false]) ∧ i0.size = 4 ∧ i0.bytes = 32) := ⟨hi0, hz0, hz1, hz2⟩
  clear hi0 hz0 hz1 hz2 h h1 h2 h3 h4
  obtain ⟨n, hn⟩ : ∃ n, n = L.length := ⟨_, rfl⟩
  have HN := Lib.hid hn
  rw [← hn] at hcell hl hc hk HRD
  clear hn
  obtain ⟨k1, hk1⟩ : ∃ k1 : Nat, k1 = k + 1 := ⟨_, rfl⟩
  have hk1' : (k : Int) + 1 = (k1 : Int) := by omega
  have HK1 := Lib.hid hk1
  have kc : (k : Int) ≤ (c : Int) := by omega
  have k1n : (k1 : Int) ≤ (n : Int) := by omega
  have k1N : k1 ≤ n := by omega
  have k1c : (k1 : Int) ≤ (c : Int) := by omega
  have k10 : (0 : Int) ≤ (k1 : Int) := by omega
  have k00 : decide ((k : Int) < 0) = false := by simp
  clear hk1
  obtain ⟨A', hA'⟩ : ∃ A', (if c = k1 then A else A.map (·.add (k1 * 4))) = A' := ⟨_, rfl⟩
  have R1 : Hid (Reads w w.heap.size 4 A k (flat (L.take k))) := by
    have h := HRD.out
    refine ⟨by rw [flat_len, List.length_take]; have := HN.out; congr 1; omega, fun hp => ?_⟩
    obtain ⟨ad, e, hb, hcc⟩ := h.2 (by omega)
    refine ⟨ad, e, hb, fun j u hu => hcc j u ?_⟩
    rw [flat_take L k (by have := HN.out; omega), List.getElem?_take] at hu
    split at hu
    · exact hu
    · cases hu
  have R2 : Hid (Reads w w.heap.size 4 A' (n - k1) (flat (L.drop k1))) := by
    have := HRD.out.cut (k := k1) (cap := c) (by omega) hc
    rw [hA', ← flat_drop L k1 (by have := HN.out; omega)] at this
    exact this
  have CX : Hid (∀ w', But No w w' → w'.cell? ⟨x, 1, none⟩ = some (.slice A n c) ∧ w'.frozen? ⟨x, 1, none⟩ = false) := by
    intro w' hb
    have hb' := HX.out.but hb (fun f => f)
    exact ⟨by rw [HN.out]; exact hb'.cell (o := 1) rfl, hb'.frozen 1⟩
  have KEEP : Hid (∀ w' A m xs, But No w w' → Reads w w.heap.size 4 A m xs → Reads w' w.heap.size 4 A m xs) := fun w' A m xs hb hr => hr.keep fun p hp => World.cell?_of_block (hb.block p.block hp (fun f => f))
  have HXL : Hid (x < w.heap.size) := HX.out.lt
  clear HRD
  go_enter Try.func18, Try.ntmps18
  go_wp2_with (first | (go_at_call 32; ((with_reducible refine CA.out.mono ?_); rintro e w1 ⟨rfl, rfl⟩)) | (at_builtin; refine wpList_append_sh _ rfl _ _ 52 rfl 59 i0 _ 4 32 Try.underlying52 I0.out.1 I0.out.2.1 I0.out.2.2.1 I0.out.2.2.2 rfl (by omega) (.slice none 0 0) 0 [] rfl (World.ownsRow_nil _ _ _ _) w.heap.size A k _ (flat (L.take k)) rfl R1.out (flat_one _) (by unfold maxLen; omega) (by omega) ?_; intro A1 cc1 w1 hown1 hgrow1 hat1; simp only [Nat.zero_add, List.nil_append] at hown1 hat1; have HB1 : Hid (But No w w1) := (But.refl No w).grown hgrow1 (fun k e => by simp [Value.ownBlock] at e); obtain ⟨hcx, hfx⟩ := CX.out w1 HB1.out; have O1 := Lib.hid hown1; have AT1 := Lib.hid hat1; clear hown1 hgrow1 hat1) | (at_builtin; refine wpList_append_sh _ rfl _ _ 52 rfl 59 i0 _ 4 32 Try.underlying52 I0.out.1 I0.out.2.1 I0.out.2.2.1 I0.out.2.2.2 rfl (by omega) (.slice A1 k cc1) k _ rfl O1.out w.heap.size A' (n - k1) _ (flat (L.drop k1)) rfl (KEEP.out _ _ _ _ HB1.out R2.out) (flat_one _) (by unfold maxLen; omega) (by omega) ?_; intro A2 cc2 w2 hown2 hgrow2 hat2; have HB2 : Hid (But No w w2) := HB1.out.grown hgrow2 (fun j e => .inr (own_new own_none AT1.out (Nat.le_refl _) j e)); obtain ⟨hcy, hfy⟩ := CX.out w2 HB2.out; have O2 := Lib.hid hown2; have AT2 := Lib.hid hat2; clear hown2 hgrow2 hat2))
  go_ret
  refine ⟨rfl, rf_fin H.out (HB2.out.no) ⟨_, HX.out.but HB2.out (fun f => f)⟩ (v' := .slice A2 (k + (n - k1)) cc2) ?_ (fun j e => ?_) ?_ rfl⟩
  · have ho := O2.out
    rw [← flat_app, HK1.out] at ho
    have e : k + (n - (k + 1)) = (L.take k ++ L.drop (k + 1)).length := by rw [List.length_append, List.length_take, List.length_drop, ← HN.out]; omega
    rw [e] at ho
    rw [HK1.out, e]
    exact ho
  · have hj := own_new (own_new own_none AT1.out (Nat.le_refl _)) AT2.out HB1.out.size j e
    have := HXL.out
    exact ⟨.inr hj, by omega⟩
  · rw [List.length_append, List.length_take, List.length_drop, ← HN.out]; omega
/-- The document's tasks and the program's entries are the same ones. -/
structure Rel (K : List One) (D : List E) : Prop where
  mem : ∀ e, e ∈ D ↔ ∃ o ∈ K, toE o = e
  nd : K.Pairwise (fun a b => a.t ≠ b.t)
theorem Rel.nil : Rel [] [] := ⟨fun e => by simp, List.Pairwise.nil⟩
theorem Rel.has {K : List One} {D : List E} (h : Rel K D) (a : Int) : hasR a K = hasT a D := by
  cases e : hasT a D with
  | true =>
    obtain ⟨x, hx, rfl⟩ := hasT_true e
    obtain ⟨o, ho, rfl⟩ := (h.mem x).1 hx
    exact List.any_eq_true.2 ⟨o, ho, by simp [toE]⟩
  | false =>
    cases e2 : hasR a K with
    | false => rfl
    | true =>
      obtain ⟨o, ho, he⟩ := List.any_eq_true.1 e2
      exact absurd (by simpa [toE] using he) (hasT_false e (toE o) ((h.mem _).2 ⟨o, ho, rfl⟩))
theorem Rel.len {K : List One} {D : List E} (h : Rel K D) (hd : QOK D) : K.length ≤ 24 := by
  have hn : (K.map (fun e => e.t.toNat)).Nodup := by
    rw [List.nodup_iff_pairwise_ne, List.pairwise_map]
    refine h.nd.imp_of_mem fun {a b} ha hb hne e => hne ?_
    have := (hd.ok _ ((h.mem _).2 ⟨a, ha, rfl⟩)).t0
    have := (hd.ok _ ((h.mem _).2 ⟨b, hb, rfl⟩)).t0
    unfold toE at *
    dsimp only at *
    omega
  have hs : (K.map (fun e => e.t.toNat)) ⊆ List.range 24 := by
    intro k hk
    obtain ⟨e, he, rfl⟩ := List.mem_map.1 hk
    have k := hd.ok _ ((h.mem _).2 ⟨e, he, rfl⟩)
    have := k.t0; have := k.t1
    unfold toE at *
    dsimp only at *
    rw [List.mem_range]; omega
  have := List.Nodup.length_le_of_subset hn hs
  simpa using this
theorem pw_mid {l1 l2 : List One} {o : One} (h : (l1 ++ o :: l2).Pairwise (fun a b => a.t ≠ b.t)) : (∀ y, y ∈ l1 ∨ y ∈ l2 → y.t ≠ o.t) ∧ (l1 ++ l2).Pairwise (fun a b => a.t ≠ b.t) := by
  rw [List.pairwise_append, List.pairwise_cons] at h
  obtain ⟨h1, ⟨h2, h3⟩, h4⟩ := h
  refine ⟨fun y hy => ?_, List.pairwise_append.2 ⟨h1, h3, fun a ha b hb => h4 a ha b (List.mem_cons_of_mem _ hb)⟩⟩
  rcases hy with hy | hy
  · exact h4 y hy o List.mem_cons_self
  · exact (h2 y hy).symm
theorem Rel.del {l1 l2 : List One} {o : One} {D : List E} (h : Rel (l1 ++ o :: l2) D) (hd : QOK D) : Rel (l1 ++ l2) (delE o.t D) := by
  obtain ⟨h1, h2⟩ := pw_mid h.nd
  refine ⟨fun e => ?_, h2⟩
  rw [mem_delE hd.nd, h.mem]
  constructor
  · rintro ⟨⟨o', ho, rfl⟩, hne⟩
    refine ⟨o', ?_, rfl⟩
    rcases List.mem_append.1 ho with g | g
    · exact List.mem_append_left _ g
    · rcases List.mem_cons.1 g with rfl | g
      · exact absurd rfl hne
      · exact List.mem_append_right _ g
  · rintro ⟨o', ho, rfl⟩
    rcases List.mem_append.1 ho with g | g
    · exact ⟨⟨o', List.mem_append_left _ g, rfl⟩, h1 o' (.inl g)⟩
    · exact ⟨⟨o', List.mem_append_right _ (List.mem_cons_of_mem _ g), rfl⟩, h1 o' (.inr g)⟩
theorem Rel.set {l1 l2 : List One} {o y : One} {D : List E} (h : Rel (l1 ++ o :: l2) D) (hd : QOK D) (hy : y.t = o.t) : Rel (l1 ++ y :: l2) (insE (toE y) (delE o.t D)) := by
  have h' := h.del hd
  obtain ⟨h1, _⟩ := pw_mid h.nd
  refine ⟨fun e => ?_, ?_⟩
  · rw [mem_insE, h'.mem]
    constructor
    · rintro (rfl | ⟨o', ho, rfl⟩)
      · exact ⟨y, by simp, rfl⟩
      · rcases List.mem_append.1 ho with g | g
        · exact ⟨o', List.mem_append_left _ g, rfl⟩
        · exact ⟨o', List.mem_append_right _ (List.mem_cons_of_mem _ g), rfl⟩
    · rintro ⟨o', ho, rfl⟩
      rcases List.mem_append.1 ho with g | g
      · exact .inr ⟨o', List.mem_append_left _ g, rfl⟩
      · rcases List.mem_cons.1 g with rfl | g
        · exact .inl rfl
        · exact .inr ⟨o', List.mem_append_right _ g, rfl⟩
  · have := h.nd
    rw [List.pairwise_append, List.pairwise_cons] at this ⊢
    obtain ⟨k1, ⟨k2, k3⟩, k4⟩ := this
    refine ⟨k1, ⟨fun z hz => by rw [hy]; exact k2 z hz, k3⟩, fun a ha b hb => ?_⟩
    rcases List.mem_cons.1 hb with rfl | hb
    · rw [hy]; exact k4 a ha o List.mem_cons_self
    · exact k4 a ha b (List.mem_cons_of_mem _ hb)
theorem Rel.add {K : List One} {D : List E} (h : Rel K D) {o : One} (hno : hasR o.t K = false) : Rel (K ++ [o]) (insE (toE o) D) := by
  refine ⟨fun e => ?_, ?_⟩
  · rw [mem_insE, h.mem]
    simp only [List.mem_append, List.mem_singleton]
    constructor
    · rintro (rfl | ⟨o', ho, rfl⟩)
      · exact ⟨o, .inr rfl, rfl⟩
      · exact ⟨o', .inl ho, rfl⟩
    · rintro ⟨o', ho | rfl, rfl⟩
      · exact .inr ⟨o', ho, rfl⟩
      · exact .inl rfl
  · rw [List.pairwise_append]
    refine ⟨h.nd, List.pairwise_singleton _ _, fun a ha b hb => ?_⟩
    obtain rfl := List.mem_singleton.1 hb
    exact hasR_false hno a ha
theorem Rel.own {l1 l2 : List One} {o : One} {D : List E} (h : Rel (l1 ++ o :: l2) D) (hd : QOK D) : ownV o.t D = o.own ∧ levV o.t D = cnt o ∧ hasT o.t D = true := by
  have hm : toE o ∈ D := (h.mem _).2 ⟨o, by simp, rfl⟩
  exact ⟨ownV_of hd.nd hm, by rw [cnt_lv]; exact levV_of hd.nd hm, hasT_of hm rfl⟩
theorem Rel.eok {K : List One} {D : List E} (h : Rel K D) (hd : QOK D) {o : One} (ho : o ∈ K) : EOK (toE o) := hd.ok _ ((h.mem _).2 ⟨o, ho, rfl⟩)
/-- The best one is the first one. -/
theorem Rel.best {K : List One} {e : E} {D : List E} {b : Nat} (h : Rel K (e :: D)) (hd : QOK (e :: D)) (hb : b < K.length) (hm : ∀ i, i < K.length → ke (toE (K.getD b o0)) ≤ ke (toE (K.getD i o0))) :
    toE (K.getD b o0) = e ∧ Rel (K.take b ++ K.drop (b + 1)) D := by
  have hbm : K.getD b o0 = K[b] := by simp [List.getD, hb]
  have hin : K[b] ∈ K := List.getElem_mem hb
  have hE : toE (K.getD b o0) = e := by
    rw [hbm]
    rcases List.mem_cons.1 ((h.mem _).2 ⟨_, hin, rfl⟩) with g | g
    · exact g
    · have hs := hd.srt
      rw [List.pairwise_cons] at hs
      have k1 := hs.1 _ g
      obtain ⟨o', ho, he⟩ := (h.mem e).1 List.mem_cons_self
      obtain ⟨i, hi, hie⟩ := List.mem_iff_getElem.1 ho
      have k2 := hm i hi
      have : K.getD i o0 = o' := by simp [List.getD, hi, hie]
      rw [this, he, hbm] at k2
      omega
  refine ⟨hE, ?_⟩
  have hK : K = K.take b ++ K[b] :: K.drop (b + 1) := by rw [List.getElem_cons_drop hb, List.take_append_drop]
  have h2 : Rel (K.take b ++ K[b] :: K.drop (b + 1)) (e :: D) := by rw [← hK]; exact h
  have h3 := h2.del hd
  have ht : K[b].t = e.t := by rw [← hE, hbm]; rfl
  rw [ht] at h3
  have : delE e.t (e :: D) = D := by unfold delE; simp
  rw [this] at h3
  exact h3
theorem QOK.tail {e : E} {D : List E} (h : QOK (e :: D)) : QOK D :=
  ⟨fun x hx => h.ok x (List.mem_cons_of_mem _ hx), (List.pairwise_cons.1 h.srt).2, (List.pairwise_cons.1 h.nd).2⟩
end Go.Proofs.Ytbfmoaojimimjaa
