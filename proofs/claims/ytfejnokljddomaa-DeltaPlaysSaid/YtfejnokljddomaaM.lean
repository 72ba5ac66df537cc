/- Plain mathematics of timers: lists in the order of expiry, chains of gaps. -/
namespace Go.Proofs.Ytfejnokljddomaa
/-- A timer: its id, and after how many ticks it expires. -/
structure Tm where
  id : Int
  left : Int
/-- A link: its block, its id, its gap. -/
structure Nd where
  b : Nat
  id : Int
  gap : Int
def sm : List Nd → Int
  | [] => 0
  | x :: t => x.gap + sm t
def acc : Int → List Nd → List Tm
  | _, [] => []
  | s, x :: t => ⟨x.id, s + x.gap⟩ :: acc (s + x.gap) t
theorem sm_append (A B : List Nd) : sm (A ++ B) = sm A + sm B := by
  induction A with
  | nil => simp [sm]
  | cons x t ih => simp only [List.cons_append, sm, ih]; omega
theorem sm_snoc (A : List Nd) (x : Nd) : sm (A ++ [x]) = sm A + x.gap := by rw [sm_append]; simp [sm]
theorem acc_append (s : Int) (A B : List Nd) : acc s (A ++ B) = acc s A ++ acc (s + sm A) B := by
  induction A generalizing s with
  | nil => simp [sm, acc]
  | cons x t ih => simp only [List.cons_append, acc, sm, ih]; rw [Int.add_assoc]
def bump (g : Int) : List Nd → List Nd
  | [] => []
  | y :: C => ⟨y.b, y.id, y.gap + g⟩ :: C
theorem acc_bump (s g : Int) (C : List Nd) : acc s (bump g C) = acc (s + g) C := by
  cases C with
  | nil => rfl
  | cons y C =>
    simp only [bump, acc]
    rw [show s + (y.gap + g) = s + g + y.gap by omega]
theorem bump_b (g : Int) (C : List Nd) : (bump g C).map Nd.b = C.map Nd.b := by cases C <;> rfl
theorem acc_length (s : Int) (N : List Nd) : (acc s N).length = N.length := by
  induction N generalizing s with
  | nil => rfl
  | cons y C ih => simp [acc, ih]
theorem acc_ids (s : Int) (N : List Nd) : (acc s N).map Tm.id = N.map Nd.id := by
  induction N generalizing s with
  | nil => rfl
  | cons y C ih => simp [acc, ih]
theorem acc_mem_id {s : Int} {N : List Nd} {z : Nd} (h : z ∈ N) : ∃ t ∈ acc s N, t.id = z.id := by
  have : z.id ∈ (acc s N).map Tm.id := by rw [acc_ids]; exact List.mem_map_of_mem h
  obtain ⟨t, ht, e⟩ := List.mem_map.1 this
  exact ⟨t, ht, e⟩
theorem mem_acc_id {s : Int} {N : List Nd} {t : Tm} (h : t ∈ acc s N) : ∃ z ∈ N, z.id = t.id := by
  have : t.id ∈ N.map Nd.id := by rw [← acc_ids s N]; exact List.mem_map_of_mem h
  obtain ⟨z, hz, e⟩ := List.mem_map.1 this
  exact ⟨z, hz, e⟩
/-- The gaps from s on are right. -/
def Ok : Int → List Nd → Prop
  | s, [] => 0 ≤ s ∧ s ≤ 9007199254740991
  | s, y :: C => 0 ≤ s ∧ s ≤ 9007199254740991 ∧ 0 ≤ y.gap ∧ Ok (s + y.gap) C
theorem Ok.lo {s : Int} {N : List Nd} (h : Ok s N) : 0 ≤ s ∧ s ≤ 9007199254740991 := by
  cases N with
  | nil => exact h
  | cons y C => exact ⟨h.1, h.2.1⟩
theorem ok_of {s : Int} {N : List Nd} (h0 : 0 ≤ s) (h1 : s ≤ 9007199254740991) (hs : (acc s N).Pairwise (fun a b => a.left ≤ b.left)) (hr : ∀ t ∈ acc s N, s ≤ t.left ∧ t.left ≤ 9007199254740991) : Ok s N := by
  induction N generalizing s with
  | nil => exact ⟨h0, h1⟩
  | cons y C ih =>
    simp only [acc, List.pairwise_cons] at hs
    have e := hr ⟨y.id, s + y.gap⟩ (by simp [acc])
    dsimp only at e
    refine ⟨h0, h1, by omega, ih (by omega) e.2 hs.2 (fun t ht => ?_)⟩
    have := hs.1 t ht
    have h2 := hr t (by simp only [acc, List.mem_cons]; exact .inr ht)
    exact ⟨this, h2.2⟩
theorem Ok.split {s : Int} {P B : List Nd} (h : Ok s (P ++ B)) : Ok (s + sm P) B := by
  induction P generalizing s with
  | nil => simpa [sm] using h
  | cons y C ih =>
    have := ih h.2.2.2
    simp only [sm]
    rw [show s + (y.gap + sm C) = s + y.gap + sm C by omega]; exact this
/-- A list of timers as it may be, in a list for R. -/
structure Gd (R : Int) (L : List Tm) : Prop where
  nd : L.Pairwise (fun a b => a.id ≠ b.id)
  srt : L.Pairwise (fun a b => a.left ≤ b.left)
  rng : ∀ x ∈ L, 1 ≤ x.left ∧ x.left ≤ 9007199254740991
  len : (L.length : Int) ≤ R
  r0 : 0 ≤ R
  r1 : R ≤ 256
theorem Gd.ok {R : Int} {N : List Nd} (h : Gd R (acc 0 N)) : Ok 0 N :=
  ok_of (by omega) (by omega) h.srt (fun t ht => by have := h.rng t ht; omega)
theorem Gd.sub {R : Int} {L L' : List Tm} (h : Gd R L) (hs : L'.Sublist L) : Gd R L' :=
  ⟨h.nd.sublist hs, h.srt.sublist hs, fun x hx => h.rng x (hs.subset hx), by have := hs.length_le; have := h.len; omega, h.r0, h.r1⟩
theorem Gd.nil {R : Int} (h0 : 0 ≤ R) (h1 : R ≤ 256) : Gd R [] := ⟨by simp, by simp, by simp, by simpa using h0, h0, h1⟩
def lft : List Tm → Int → Int
  | [], _ => 0
  | x :: t, a => if x.id = a then x.left else lft t a
def hasT (L : List Tm) (a : Int) : Bool := L.any (fun x => x.id == a)
def rmv (L : List Tm) (a : Int) : List Tm := L.filter (fun x => x.id != a)
def ins (x : Tm) : List Tm → List Tm
  | [] => [x]
  | y :: t => if y.left ≤ x.left then y :: ins x t else x :: y :: t
def out (n : Int) (L : List Tm) : List Int := (L.filter (fun x => decide (x.left ≤ n))).map Tm.id
def dn (n : Int) (x : Tm) : Tm := ⟨x.id, x.left - n⟩
def rst (n : Int) (L : List Tm) : List Tm := (L.filter (fun x => decide (n < x.left))).map (dn n)
def addE (R : Int) (L : List Tm) (a n : Int) : Int := if n < 1 ∨ 9007199254740991 < n then 1 else if hasT L a = true then 4 else if R ≤ L.length then 3 else 0
def addL (R : Int) (L : List Tm) (a n : Int) : List Tm := if addE R L a n = 0 then ins ⟨a, n⟩ L else L
theorem hasT_iff (L : List Tm) (a : Int) : hasT L a = true ↔ ∃ x ∈ L, x.id = a := by simp [hasT]
theorem hasT_not (L : List Tm) (a : Int) : hasT L a = false ↔ ∀ x ∈ L, x.id ≠ a := by
  rw [← Bool.not_eq_true, hasT_iff]; simp
theorem lft_none {L : List Tm} {a : Int} (h : ∀ x ∈ L, x.id ≠ a) : lft L a = 0 := by
  induction L with
  | nil => rfl
  | cons x t ih =>
    rw [lft, if_neg (h x (by simp))]
    exact ih (fun y hy => h y (by simp [hy]))
theorem lft_mem {L : List Tm} (h : L.Pairwise (fun a b => a.id ≠ b.id)) {x : Tm} (hx : x ∈ L) : lft L x.id = x.left := by
  induction L with
  | nil => simp at hx
  | cons y t ih =>
    rw [List.pairwise_cons] at h
    rcases List.mem_cons.1 hx with rfl | hx
    · rw [lft, if_pos rfl]
    · rw [lft, if_neg (h.1 x hx)]; exact ih h.2 hx
theorem lft_cases (L : List Tm) (a : Int) : (∃ x ∈ L, x.id = a ∧ lft L a = x.left) ∨ ((∀ x ∈ L, x.id ≠ a) ∧ lft L a = 0) := by
  induction L with
  | nil => exact .inr ⟨by simp, rfl⟩
  | cons y t ih =>
    by_cases e : y.id = a
    · exact .inl ⟨y, by simp, e, by rw [lft, if_pos e]⟩
    · rw [lft, if_neg e]
      rcases ih with ⟨x, hx, h1, h2⟩ | ⟨h1, h2⟩
      · exact .inl ⟨x, by simp [hx], h1, h2⟩
      · exact .inr ⟨fun x hx => (List.mem_cons.1 hx).elim (fun h => h ▸ e) (h1 x), h2⟩
theorem has_lft {R : Int} {L : List Tm} (h : Gd R L) (a : Int) : hasT L a = decide (0 < lft L a) := by
  rcases lft_cases L a with ⟨x, hx, h1, h2⟩ | ⟨h1, h2⟩
  · rw [(hasT_iff L a).2 ⟨x, hx, h1⟩, h2]; have := h.rng x hx; simp; omega
  · rw [(hasT_not L a).2 h1, h2]; simp
theorem lft_rng {R : Int} {L : List Tm} (h : Gd R L) (a : Int) : 0 ≤ lft L a ∧ lft L a ≤ 9007199254740991 := by
  rcases lft_cases L a with ⟨x, hx, h1, h2⟩ | ⟨h1, h2⟩
  · rw [h2]; have := h.rng x hx; omega
  · rw [h2]; omega
/-- The two directions of lft in one: v is what a has left, if v is above 0. -/
theorem lft_eq {L : List Tm} {a v : Int} (hv : ∀ x ∈ L, x.id = a → x.left = v) (h0 : v ≠ 0 → ∃ x ∈ L, x.id = a) : lft L a = v := by
  rcases lft_cases L a with ⟨x, hx, h1, h2⟩ | ⟨h1, h2⟩
  · rw [h2]; exact hv x hx h1
  · rw [h2]
    by_cases e : v = 0
    · exact e.symm
    · obtain ⟨x, hx, ex⟩ := h0 e
      exact absurd ex (h1 x hx)
theorem mem_ins {x y : Tm} {L : List Tm} : y ∈ ins x L ↔ y = x ∨ y ∈ L := by
  induction L with
  | nil => simp [ins]
  | cons z t ih =>
    rw [ins]
    by_cases h : z.left ≤ x.left
    · rw [if_pos h, List.mem_cons, ih, List.mem_cons]
      constructor <;> (rintro (h | h | h) <;> simp [h])
    · rw [if_neg h, List.mem_cons]
theorem length_ins (x : Tm) (L : List Tm) : (ins x L).length = L.length + 1 := by
  induction L with
  | nil => rfl
  | cons z t ih =>
    rw [ins]
    by_cases h : z.left ≤ x.left
    · rw [if_pos h]; simp [ih]
    · rw [if_neg h]; simp
theorem ins_split {x : Tm} {P B : List Tm} (hp : ∀ z ∈ P, z.left ≤ x.left) (hb : ∀ y C, B = y :: C → x.left < y.left) : ins x (P ++ B) = P ++ x :: B := by
  induction P with
  | nil =>
    cases B with
    | nil => rfl
    | cons y C => have := hb y C rfl; rw [List.nil_append, ins, if_neg (by omega)]; rfl
  | cons z t ih =>
    rw [List.cons_append, ins, if_pos (hp z (by simp)), ih (fun z hz => hp z (by simp [hz]))]; rfl
theorem ins_pair {r : Tm → Tm → Prop} {x : Tm} {L : List Tm} (h : L.Pairwise r) (hr : ∀ z ∈ L, z.left ≤ x.left → r z x) (hl : ∀ z ∈ L, (∃ y ∈ L, x.left < y.left ∧ (y = z ∨ r y z)) → r x z) : (ins x L).Pairwise r := by
  induction L with
  | nil => simp [ins]
  | cons z t ih =>
    rw [List.pairwise_cons] at h
    rw [ins]
    by_cases hz : z.left ≤ x.left
    · rw [if_pos hz, List.pairwise_cons]
      refine ⟨fun y hy => ?_, ih h.2 (fun y hy => hr y (by simp [hy])) (fun y hy ⟨u, hu, h1, h2⟩ => hl y (by simp [hy]) ⟨u, by simp [hu], h1, h2⟩)⟩
      rcases mem_ins.1 hy with rfl | hy
      · exact hr z (by simp) hz
      · exact h.1 y hy
    · rw [if_neg hz, List.pairwise_cons, List.pairwise_cons]
      refine ⟨fun y hy => ?_, h⟩
      rcases List.mem_cons.1 hy with rfl | hy
      · exact hl y (by simp) ⟨y, by simp, by omega, .inl rfl⟩
      · exact hl y (by simp [hy]) ⟨z, by simp, by omega, .inr (h.1 y hy)⟩
theorem Gd.ins {R : Int} {L : List Tm} {a n : Int} (h : Gd R L) (h0 : 1 ≤ n) (h1 : n ≤ 9007199254740991) (hno : ∀ x ∈ L, x.id ≠ a) (hl : (L.length : Int) < R) : Gd R (ins ⟨a, n⟩ L) := by
  refine ⟨ins_pair h.nd (fun z hz _ => hno z hz) (fun z hz _ => (hno z hz).symm), ins_pair h.srt (fun z _ hle => hle) (fun z _ ⟨y, hy, h1, h2⟩ => ?_), fun x hx => ?_, by rw [length_ins]; omega, h.r0, h.r1⟩
  · show n ≤ z.left
    have : n < y.left := h1
    rcases h2 with rfl | h2
    · omega
    · omega
  · rcases mem_ins.1 hx with rfl | hx
    · exact ⟨h0, h1⟩
    · exact h.rng x hx
theorem Gd.rmv {R : Int} {L : List Tm} (h : Gd R L) (a : Int) : Gd R (rmv L a) := h.sub List.filter_sublist
theorem rmv_split {P C : List Tm} {y : Tm} {a : Int} (h : (P ++ y :: C).Pairwise (fun a b => a.id ≠ b.id)) (hy : y.id = a) : rmv (P ++ y :: C) a = P ++ C := by
  rw [List.pairwise_append, List.pairwise_cons] at h
  unfold rmv
  rw [List.filter_append, List.filter_cons, if_neg (by simp [hy]), List.filter_eq_self.2, List.filter_eq_self.2]
  · intro x hx; have := h.2.1.1 x hx; rw [hy] at this; simpa using this.symm
  · intro x hx; have := h.2.2 x hx y (by simp); rw [hy] at this; simpa using this
theorem rmv_none {L : List Tm} {a : Int} (h : ∀ x ∈ L, x.id ≠ a) : rmv L a = L := by
  unfold rmv
  exact List.filter_eq_self.2 (fun x hx => by simpa using h x hx)
theorem mem_rst {n : Int} {L : List Tm} {y : Tm} : y ∈ rst n L ↔ ∃ x ∈ L, n < x.left ∧ dn n x = y := by
  simp [rst, and_assoc]
theorem Gd.rst {R : Int} {L : List Tm} (h : Gd R L) {n : Int} (hn : 0 ≤ n) : Gd R (rst n L) := by
  have h1 : Gd R (L.filter (fun x => decide (n < x.left))) := h.sub List.filter_sublist
  refine ⟨?_, ?_, fun y hy => ?_, ?_, h.r0, h.r1⟩
  · exact h1.nd.map _ (fun a b hab => hab)
  · exact h1.srt.map _ (fun a b hab => by show a.left - n ≤ b.left - n; omega)
  · obtain ⟨x, hx, h2, rfl⟩ := mem_rst.1 hy
    have := h.rng x hx
    show 1 ≤ x.left - n ∧ x.left - n ≤ _
    omega
  · have := h1.len
    unfold Ytfejnokljddomaa.rst; rw [List.length_map]; exact this
theorem lft_ins {R : Int} {L : List Tm} {a n : Int} (h : Gd R L) (hn : 1 ≤ n) (h1 : n ≤ 9007199254740991) (hno : ∀ x ∈ L, x.id ≠ a) (hl : (L.length : Int) < R) (j : Int) : lft (ins ⟨a, n⟩ L) j = if j = a then n else lft L j := by
  have hg := h.ins hn h1 hno hl
  by_cases e : j = a
  · rw [if_pos e, e]
    exact lft_mem hg.nd (x := ⟨a, n⟩) (mem_ins.2 (.inl rfl))
  · rw [if_neg e]
    rcases lft_cases L j with ⟨x, hx, h2, h3⟩ | ⟨h2, h3⟩
    · rw [h3, ← h2]; exact lft_mem hg.nd (mem_ins.2 (.inr hx))
    · rw [h3]
      exact lft_none (fun x hx => (mem_ins.1 hx).elim (fun h e' => e (by rw [← e', h])) (h2 x))
theorem lft_rmv {R : Int} {L : List Tm} (h : Gd R L) (a j : Int) : lft (rmv L a) j = if j = a then 0 else lft L j := by
  have hg := h.rmv a
  by_cases e : j = a
  · rw [if_pos e, e]
    exact lft_none (fun x hx => by have := (List.mem_filter.1 hx).2; simpa using this)
  · rw [if_neg e]
    rcases lft_cases L j with ⟨x, hx, h2, h3⟩ | ⟨h2, h3⟩
    · rw [h3, ← h2]; exact lft_mem hg.nd (List.mem_filter.2 ⟨hx, by simpa [h2] using e⟩)
    · rw [h3]; exact lft_none (fun x hx => h2 x (List.mem_filter.1 hx).1)
theorem lft_rst {R : Int} {L : List Tm} (h : Gd R L) {n : Int} (hn : 0 ≤ n) (j : Int) : lft (rst n L) j = if n < lft L j then lft L j - n else 0 := by
  have hg := h.rst hn
  rcases lft_cases L j with ⟨x, hx, h2, h3⟩ | ⟨h2, h3⟩
  · rw [h3]
    by_cases e : n < x.left
    · rw [if_pos e, ← h2]
      exact lft_mem hg.nd (x := dn n x) (mem_rst.2 ⟨x, hx, e, rfl⟩)
    · rw [if_neg e]
      refine lft_none (fun y hy ey => ?_)
      obtain ⟨z, hz, h4, rfl⟩ := mem_rst.1 hy
      have h5 := lft_mem h.nd hz
      have h6 := lft_mem h.nd hx
      have h7 : z.id = j := ey
      rw [h7] at h5
      rw [h2] at h6
      omega
  · rw [h3, if_neg (by omega)]
    refine lft_none (fun y hy ey => ?_)
    obtain ⟨z, hz, h4, rfl⟩ := mem_rst.1 hy
    exact h2 z hz ey
theorem dn_dn (a b : Int) (x : Tm) : dn b (dn a x) = dn (a + b) x := by
  unfold dn; simp only [Tm.mk.injEq, true_and]; omega
theorem dnl (n : Int) (x : Tm) : (dn n x).left = x.left - n := rfl
theorem dni (n : Int) (x : Tm) : (dn n x).id = x.id := rfl
theorem rst_cons_pos {x : Tm} {t : List Tm} {n : Int} (h : n < x.left) : rst n (x :: t) = dn n x :: rst n t := by
  unfold rst; rw [List.filter_cons, if_pos (by simpa using h), List.map_cons]
theorem out_cons_neg {x : Tm} {t : List Tm} {n : Int} (h : n < x.left) : out n (x :: t) = out n t := by
  unfold out; rw [List.filter_cons, if_neg (by simp; omega)]
theorem out_cons {x : Tm} {t : List Tm} {n : Int} (h : x.left ≤ n) : out n (x :: t) = x.id :: out n t := by
  unfold out; rw [List.filter_cons, if_pos (by simpa using h), List.map_cons]
theorem rst_cons {x : Tm} {t : List Tm} {n : Int} (h : x.left ≤ n) : rst n (x :: t) = rst n t := by
  unfold rst; rw [List.filter_cons, if_neg (by simp; omega)]
theorem rst_add {L : List Tm} {a b : Int} (hb : 0 ≤ b) : rst (a + b) L = rst b (rst a L) := by
  induction L with
  | nil => rfl
  | cons x t ih =>
    by_cases h1 : a + b < x.left
    · rw [rst_cons_pos h1, rst_cons_pos (n := a) (by omega), rst_cons_pos (n := b) (by rw [dnl]; omega), ih, dn_dn]
    · rw [rst_cons (n := a + b) (by omega), ih]
      by_cases h2 : a < x.left
      · rw [rst_cons_pos h2, rst_cons (n := b) (by rw [dnl]; omega)]
      · rw [rst_cons (n := a) (by omega)]
theorem out_add {L : List Tm} (hs : L.Pairwise (fun a b => a.left ≤ b.left)) {a b : Int} (hb : 0 ≤ b) : out (a + b) L = out a L ++ out b (rst a L) := by
  induction L with
  | nil => rfl
  | cons x t ih =>
    rw [List.pairwise_cons] at hs
    have ih := ih hs.2
    by_cases h1 : x.left ≤ a
    · rw [out_cons (n := a + b) (by omega), out_cons h1, rst_cons h1, ih]; rfl
    · have e2 : out a t = [] := by
        unfold out
        rw [List.filter_eq_nil_iff.2, List.map_nil]
        intro y hy
        have := hs.1 y hy; simp; omega
      have e1 : out a (x :: t) = [] := by rw [out_cons_neg (by omega), e2]
      rw [e2, List.nil_append] at ih
      rw [e1, List.nil_append, rst_cons_pos (by omega)]
      by_cases h2 : x.left ≤ a + b
      · rw [out_cons h2, out_cons (n := b) (by rw [dnl]; omega), ih]; rfl
      · rw [out_cons_neg (n := a + b) (by omega), out_cons_neg (n := b) (by rw [dnl]; omega), ih]
theorem out_zero {R : Int} {L : List Tm} (h : Gd R L) : out 0 L = [] := by
  unfold out
  rw [List.filter_eq_nil_iff.2, List.map_nil]
  intro y hy
  have := h.rng y hy; simp; omega
theorem rst_zero {R : Int} {L : List Tm} (h : Gd R L) : rst 0 L = L := by
  unfold rst
  rw [List.filter_eq_self.2 (fun x hx => by have := h.rng x hx; simp; omega)]
  have : ∀ x : Tm, dn 0 x = x := fun x => by unfold dn; simp
  rw [List.map_congr_left (fun x _ => this x), List.map_id']
theorem out_none {x : Tm} {t : List Tm} {n : Int} (hs : (x :: t).Pairwise (fun a b => a.left ≤ b.left)) (h : n < x.left) : out n (x :: t) = [] ∧ rst n (x :: t) = (x :: t).map (dn n) := by
  rw [List.pairwise_cons] at hs
  have : ∀ y ∈ x :: t, n < y.left := by
    intro y hy
    rcases List.mem_cons.1 hy with rfl | hy
    · exact h
    · have := hs.1 y hy; omega
  unfold out rst
  rw [List.filter_eq_nil_iff.2 (fun y hy => by have := this y hy; simp; omega), List.filter_eq_self.2 (fun y hy => by simpa using this y hy)]
  exact ⟨rfl, rfl⟩
theorem acc_dn (n s : Int) (N : List Nd) : (acc s N).map (dn n) = acc (s - n) N := by
  induction N generalizing s with
  | nil => rfl
  | cons y C ih => simp only [acc, List.map_cons, ih, dn]; rw [show s - n + y.gap = s + y.gap - n by omega]
theorem out_len (n : Int) (L : List Tm) : (out n L).length ≤ L.length := by
  unfold out; rw [List.length_map]; exact List.length_filter_le _ _
/-- Where a new timer goes. -/
theorem place_split (v s : Int) (N : List Nd) : ∃ P B, N = P ++ B ∧ (∀ t ∈ acc s P, t.left ≤ v) ∧ ∀ y C, B = y :: C → v < s + sm P + y.gap := by
  induction N generalizing s with
  | nil => exact ⟨[], [], rfl, by simp [acc], by simp⟩
  | cons z t ih =>
    by_cases h : s + z.gap ≤ v
    · obtain ⟨P, B, e, h1, h2⟩ := ih (s + z.gap)
      refine ⟨z :: P, B, by rw [e]; rfl, ?_, fun y C e => ?_⟩
      · intro u hu
        simp only [acc, List.mem_cons] at hu
        rcases hu with rfl | hu
        · exact h
        · exact h1 u hu
      · have := h2 y C e; simp only [sm]; omega
    · refine ⟨[], z :: t, rfl, by simp [acc], fun y C e => ?_⟩
      cases e
      simp only [sm]; omega
/-- Where a timer with an id is. -/
theorem find_split {N : List Nd} {a : Int} (h : ∃ z ∈ N, z.id = a) : ∃ P y C, N = P ++ y :: C ∧ y.id = a ∧ ∀ z ∈ P, z.id ≠ a := by
  induction N with
  | nil => simp at h
  | cons z t ih =>
    by_cases e : z.id = a
    · exact ⟨[], z, t, rfl, e, by simp⟩
    · obtain ⟨y, hy, ey⟩ := h
      rcases List.mem_cons.1 hy with rfl | hy
      · exact absurd ey e
      · obtain ⟨P, y, C, e1, e2, e3⟩ := ih ⟨y, hy, ey⟩
        exact ⟨z :: P, y, C, by rw [e1]; rfl, e2, fun u hu => (List.mem_cons.1 hu).elim (fun h => h ▸ e) (e3 u)⟩
/-- What is before the end. -/
theorem last_split (h : Nd) (P : List Nd) : ∃ A x, h :: P = A ++ [x] := ⟨_, _, (List.dropLast_concat_getLast (by simp : h :: P ≠ [])).symm⟩
theorem lft_split {s : Int} {P C : List Nd} {y : Nd} {a : Int} (hy : y.id = a) (hp : ∀ z ∈ P, z.id ≠ a) : lft (acc s (P ++ y :: C)) a = s + sm P + y.gap := by
  induction P generalizing s with
  | nil => simp [acc, lft, hy, sm]
  | cons z t ih =>
    rw [List.cons_append, acc, lft, if_neg (hp z (by simp)), ih (fun u hu => hp u (by simp [hu]))]
    simp only [sm]; omega
end Go.Proofs.Ytfejnokljddomaa
