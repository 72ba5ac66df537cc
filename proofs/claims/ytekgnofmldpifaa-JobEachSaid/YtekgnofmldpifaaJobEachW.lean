/- The walk of JobEach. -/
import Derived.Test.YtekgnofmldpifaaK
namespace Go.Proofs.Ytekgnofmldpifaa
open Go.ChangeShapes Go.WideShapes Go.ChangeAt Go.RowKit Go.Deep
namespace jobEach
theorem field_done (a c : Bool) (r m n : Int) (W : World) : (Instr.field 35 (.agg #[.bool a, .int .i64 r, .int .i64 m, .int .i64 n, .bool c]) 3).run Try.prog W = .ok (.int .i64 n) W := by
  simp [Instr.field, go_sem, asAgg]
attribute [local go_sem] field_done
/-- After some deeds: what is known of the first task is the same in both books. -/
def Rel (w wr : World) (pa pb : Nat) : Prop := ∃ Sa Sb e g h, PP w wr Sa Sb pa pb e g e h
set_option maxHeartbeats 4000000 in
set_option maxRecDepth 100000 in
theorem walk (a : Int) (ha : (Lit.int .i64 a).wf = true) (A : Option Addr) (n c : Nat) (kd di dk : Nat → Int) (w : World) (hd : RdD w A n kd di dk) :
    Calls Try.prog 4 #[.int .i64 a, .slice A n c] w fun e w' => e = .returned (.bool true) ∧ But No w w' := by
  have CA := Lib.hid (fun W => pick_any a 20 W (inR_of ha) (by omega) (by omega))
  have ra := pk_lt a 20 (by omega)
  generalize pk a 20 = P at CA ra
  obtain ⟨P0, P1⟩ := ra
  have HD := Lib.hid hd
  have nmax := hd.max
  clear ha hd
  go_enter Try.func4, Try.ntmps4
  go_wp2_with fail
  refine (examples_any w).mono ?_
  rintro e w1 ⟨rfl, hb1⟩
  have HB1 := Lib.hid hb1
  clear hb1
  go_wp2_with (first | (go_at_call 7; ((with_reducible refine (CA.out _).mono ?_); rintro e w2 ⟨rfl, rfl⟩)))
  have BT := Lib.hid (Blk.new w1 #[.int .i64 (1 + P), .int .i64 0, .int .i64 3, .slice none 0 0] 27)
  have HB2 : Hid (But No w (w1.alloc (.cells #[.int .i64 (1 + P), .int .i64 0, .int .i64 3, .slice none 0 0] 27))) := HB1.out.alloc _
  refine (made2 (HB2.out.alloc _) (blk2 w1 _ _ _) ⟨by omega, by omega⟩ (by decide)).mono ?_
  rintro e w2 ⟨pa, Sa, rfl, h1, h2, h3⟩
  have BT2 : Hid (Blk w2 w1.heap.size #[.int .i64 (1 + P), .int .i64 0, .int .i64 3, .slice none 0 0] 27) := (BT.out.alloc _).but h2 (fun f => f)
  have H1 := Lib.hid h1
  have z0 := BT2.out.cell (o := 0) rfl
  have z1 := BT2.out.cell (o := 1) rfl
  have z2 := BT2.out.cell (o := 2) rfl
  have z3 := BT2.out.cell (o := 3) rfl
  clear h1 h2 h3 HB1 HB2 BT
  go_wp2_with fail
  refine (made2 (w0 := w) (H1.out.but.alloc _) (Blk.new w2 _ _) ⟨by omega, by omega⟩ (by decide)).mono ?_
  rintro e w3 ⟨pb, Sb, rfl, g1, g2, g3⟩
  have hP : PP w w3 Sa Sb pa pb (en0 (1 + P) 3) (en0 (1 + P) 3) (en0 (1 + P) 3) (en0 (1 + P) 3) :=
    ⟨⟨(H1.out.jp.no (((But.refl _ _).alloc _).trans g2)).congr (by intro j _; unfold one two; split <;> rfl), (H1.out.but.alloc _).trans g2, H1.out.new⟩, ⟨g1.jp.congr (by intro j _; unfold one two; split <;> rfl), g1.but, g1.new⟩, fun k hk hk2 => by
      have h4 := H1.out.jp.lt k hk
      have h5 := g3 k hk2
      rw [size_alloc1] at h5; omega⟩
  have HR : Hid (Rel w w3 pa pb) := ⟨_, _, _, _, _, hP⟩
  clear hP g1 g2 g3 H1 BT2 z0 z1 z2 z3 CA P0 P1
  go_wp2_with fail
  go_loopw [11] (fun s wr => ∃ k : Nat, s = .int .i64 k ∧ k ≤ n ∧ k ≤ 100 ∧ Hid (Rel w wr pa pb)) (fun s _ => n - (intOf s).toNat)
  case atStart => exact ⟨0, rfl, by omega, by omega, HR⟩
  case round =>
    obtain ⟨k, rfl, hk, hk3, hrel⟩ := hrel
    clear HR
    obtain ⟨Sa, Sb, e0, g, h, hps⟩ := hrel.out
    have HP0 := Lib.hid hps
    clear hps hrel
    by_cases hgo : k < n ∧ k < 100
    · obtain ⟨hlt, hl3⟩ := hgo
      obtain ⟨eb, eoff, rfl, hbl, hc⟩ := (HD.out.no HP0.out.a.but).at_ (by omega)
      obtain ⟨c0, c1, c2⟩ := hc k hlt
      have hf := HD.out.fit k hlt
      obtain ⟨x0, hx0⟩ : ∃ y, kd k = y := ⟨_, rfl⟩
      obtain ⟨x1, hx1⟩ : ∃ y, di k = y := ⟨_, rfl⟩
      obtain ⟨x2, hx2⟩ : ∃ y, dk k = y := ⟨_, rfl⟩
      rw [hx0] at c0 hf
      rw [hx1] at c1
      rw [hx2] at c2
      have HFF : Hid (inR x0) := hf.1
      have q0 := pk_lt x0 4 (by omega)
      have kn' : (k : Int) < (n : Int) := by omega
      have k3' : (k : Int) < 100 := by omega
      have t3 : ¬ (3 : Int) = 0 := by omega
      clear hc hbl hf hx0 hx1 hx2
      have HB0 := Lib.hid (Blk.new wr #[.int .i64 x0, .int .i64 x1, .int .i64 x2] 41)
      have HP : Hid (PP w (wr.alloc (.cells #[.int .i64 x0, .int .i64 x1, .int .i64 x2] 41)) Sa Sb pa pb e0 g e0 h) := HP0.out.no ((But.refl _ _).alloc _)
      obtain ⟨y, hy⟩ : ∃ y : Nat, pk x0 4 = y := ⟨(pk x0 4).toNat, by omega⟩
      have CK : Hid (∀ W, Calls Try.prog 7 #[.int .i64 x0, .int .i64 4] W fun e w' => e = .returned (.int .i64 y) ∧ W = w') := fun W => by rw [← hy]; exact pick_any x0 4 W HFF.out (by omega) (by omega)
      obtain hy3 | hy3 | hy3 | hy3 : y = 0 ∨ y = 1 ∨ y = 2 ∨ y = 3 := by omega
      · subst hy3
        obtain ⟨g2, hg2⟩ : ∃ y, askE g x2 = y := ⟨_, rfl⟩
        obtain ⟨u0, hu0⟩ : ∃ y, askB g x2 = y := ⟨_, rfl⟩
        have C0 : Hid (∀ W, PP w W Sa Sb pa pb e0 g e0 h → Calls Try.prog 9 #[.pointer (some ⟨pa, 0, none⟩), .int .i64 1, .int .i64 x2] W fun r w' => r = .returned (.bool u0) ∧ PP w w' Sa Sb pa pb e0 g2 e0 h) := fun W hp => by rw [← hg2, ← hu0]; exact hp.ask_a1 x2
        clear hy q0 hg2 hu0
        by_cases ht3 : (k : Int) % 3 = 0
        · go_wp2_with (first | (go_at_call 7; ((with_reducible refine (CK.out _).mono ?_); rintro e wz ⟨rfl, rfl⟩)) | (go_at_call 9; ((with_reducible refine (C0.out _ HP.out).mono ?_); rintro e wp ⟨rfl, hz⟩; have HP9 := Lib.hid hz; clear hz)))
          clear HP HP0 HB0 C0 CK
          obtain ⟨e1, he1⟩ : ∃ y, askE e0 2 = y := ⟨_, rfl⟩
          obtain ⟨u1, hu1⟩ : ∃ y, askB e0 2 = y := ⟨_, rfl⟩
          have K1 : Hid (∀ W, PP w W Sa Sb pa pb e0 g2 e0 h → Calls Try.prog 9 #[.pointer (some ⟨pa, 0, none⟩), .int .i64 0, .int .i64 2] W fun r w' => r = .returned (.bool u1) ∧ PP w w' Sa Sb pa pb e1 g2 e0 h) := fun W hp => by rw [← he1, ← hu1]; exact hp.ask_a0 2
          have K2 : Hid (∀ W, PP w W Sa Sb pa pb e1 g2 e0 h → Calls Try.prog 9 #[.pointer (some ⟨pb, 0, none⟩), .int .i64 0, .int .i64 2] W fun r w' => r = .returned (.bool u1) ∧ PP w w' Sa Sb pa pb e1 g2 e1 h) := fun W hp => by have := hp.ask_b0 2; rw [he1, hu1] at this; exact this
          clear he1 hu1
          have y1 : (u1 != u1) = false := by simp
          obtain ⟨e2, he2⟩ : ∃ y, staE e1 k = y := ⟨_, rfl⟩
          obtain ⟨u2, hu2⟩ : ∃ y, staB e1 k = y := ⟨_, rfl⟩
          obtain ⟨e3, he3⟩ : ∃ y, wrkE e2 k = y := ⟨_, rfl⟩
          obtain ⟨u3, hu3⟩ : ∃ y, wrkB e2 k = y := ⟨_, rfl⟩
          have K3 : Hid (∀ W, PP w W Sa Sb pa pb e1 g2 e1 h → Calls Try.prog 11 #[.pointer (some ⟨pa, 0, none⟩), .int .i64 0, .int .i64 k] W fun r w' => r = .returned (.bool u2) ∧ PP w w' Sa Sb pa pb e2 g2 e1 h) := fun W hp => by rw [← he2, ← hu2]; exact hp.start_a0 k
          have K4 : Hid (∀ W, PP w W Sa Sb pa pb e2 g2 e1 h → Calls Try.prog 11 #[.pointer (some ⟨pb, 0, none⟩), .int .i64 0, .int .i64 k] W fun r w' => r = .returned (.bool u2) ∧ PP w w' Sa Sb pa pb e2 g2 e2 h) := fun W hp => by have := hp.start_b0 k; rw [he2, hu2] at this; exact this
          have K5 : Hid (∀ W, PP w W Sa Sb pa pb e2 g2 e2 h → Calls Try.prog 13 #[.pointer (some ⟨pa, 0, none⟩), .int .i64 0, .int .i64 k] W fun r w' => r = .returned (.bool u3) ∧ PP w w' Sa Sb pa pb e3 g2 e2 h) := fun W hp => by rw [← he3, ← hu3]; exact hp.work_a0 k
          have K6 : Hid (∀ W, PP w W Sa Sb pa pb e3 g2 e2 h → Calls Try.prog 13 #[.pointer (some ⟨pb, 0, none⟩), .int .i64 0, .int .i64 k] W fun r w' => r = .returned (.bool u3) ∧ PP w w' Sa Sb pa pb e3 g2 e3 h) := fun W hp => by have := hp.work_b0 k; rw [he3, hu3] at this; exact this
          have y2 : (u2 != u2) = false := by simp
          have y3 : (u3 != u3) = false := by simp
          have K7 : Hid (∀ W, PP w W Sa Sb pa pb e3 g2 e3 h → Calls Try.prog 12 #[.pointer (some ⟨pa, 0, none⟩), .int .i64 0] W fun r w' => r = .returned (.agg #[.bool e3.a, .int .i64 e3.r, .int .i64 e3.m, .int .i64 e3.n, .bool e3.c]) ∧ PP w w' Sa Sb pa pb e3 g2 e3 h) := fun W hp => hp.state_a
          have K8 : Hid (∀ W, PP w W Sa Sb pa pb e3 g2 e3 h → Calls Try.prog 12 #[.pointer (some ⟨pb, 0, none⟩), .int .i64 0] W fun r w' => r = .returned (.agg #[.bool e3.a, .int .i64 e3.r, .int .i64 e3.m, .int .i64 e3.n, .bool e3.c]) ∧ PP w w' Sa Sb pa pb e3 g2 e3 h) := fun W hp => hp.state_b
          have K9 : Hid (∀ W, PP w W Sa Sb pa pb e3 g2 e3 h → Calls Try.prog 14 #[.pointer (some ⟨pa, 0, none⟩), .int .i64 0] W fun r w' => r = .returned (.bool e3.a) ∧ PP w w' Sa Sb pa pb (ovrE e3) g2 e3 h) := fun W hp => hp.over_a0
          have K10 : Hid (∀ W, PP w W Sa Sb pa pb (ovrE e3) g2 e3 h → Calls Try.prog 14 #[.pointer (some ⟨pb, 0, none⟩), .int .i64 0] W fun r w' => r = .returned (.bool e3.a) ∧ PP w w' Sa Sb pa pb (ovrE e3) g2 (ovrE e3) h) := fun W hp => hp.over_b0
          have HZ1 : Hid (∀ W, PP w W Sa Sb pa pb e3 g2 e3 h → Rel w W pa pb) := fun W hp => ⟨_, _, _, _, _, hp⟩
          have HZ2 : Hid (∀ W, PP w W Sa Sb pa pb (ovrE e3) g2 (ovrE e3) h → Rel w W pa pb) := fun W hp => ⟨_, _, _, _, _, hp⟩
          clear he2 hu2 he3 hu3
          generalize ovrE e3 = e4 at K9 K10 HZ2
          generalize e3.a = va at K7 K8 K9 K10
          generalize e3.r = vr at K7 K8
          generalize e3.m = vm at K7 K8
          generalize e3.n = vn at K7 K8
          generalize e3.c = vc at K7 K8
          have y4 : (va != va) = false := by simp
          have y5 : (vr == vr) = true := by simp
          refine (K1.out _ HP9.out).mono ?_
          rintro e wz ⟨rfl, hz⟩
          have P1 := Lib.hid hz
          clear hz HP9
          by_cases hdn : vn = 2
          · have b9 : (vn == 2) = true := by simpa using hdn
            have HRL : Hid (∀ W, PP w W Sa Sb pa pb e4 g2 e4 h → Rel w W pa pb) := HZ2
            clear hdn HZ1
            go_wp2_with (first | (go_at_call 9; ((with_reducible refine (K2.out _ P1.out).mono ?_); rintro e wz ⟨rfl, hz⟩; have Q1 := Lib.hid hz; clear hz)) | (go_at_call 11; ((with_reducible refine (K3.out _ Q1.out).mono ?_); rintro e wz ⟨rfl, hz⟩; have P2 := Lib.hid hz; clear hz)) | (go_at_call 11; ((with_reducible refine (K4.out _ P2.out).mono ?_); rintro e wz ⟨rfl, hz⟩; have Q2 := Lib.hid hz; clear hz)) | (go_at_call 13; ((with_reducible refine (K5.out _ Q2.out).mono ?_); rintro e wz ⟨rfl, hz⟩; have P3 := Lib.hid hz; clear hz)) | (go_at_call 13; ((with_reducible refine (K6.out _ P3.out).mono ?_); rintro e wz ⟨rfl, hz⟩; have Q3 := Lib.hid hz; clear hz)) | (go_at_call 12; ((with_reducible refine (K7.out _ Q4.out).mono ?_); rintro e wz ⟨rfl, hz⟩; have Q5 := Lib.hid hz; clear hz Q4)) | (go_at_call 12; ((with_reducible refine (K8.out _ P4.out).mono ?_); rintro e wz ⟨rfl, hz⟩; have Q4 := Lib.hid hz; clear hz P4 Q3 P3 Q2)) | (go_at_call 12; ((with_reducible refine (K7.out _ Q3.out).mono ?_); rintro e wz ⟨rfl, hz⟩; have P4 := Lib.hid hz; clear hz)) | (go_at_call 14; ((with_reducible refine (K9.out _ Q5.out).mono ?_); rintro e wz ⟨rfl, hz⟩; have P6 := Lib.hid hz; clear hz)) | (go_at_call 14; ((with_reducible refine (K10.out _ P6.out).mono ?_); rintro e wz ⟨rfl, hz⟩; have Q6 := Lib.hid hz; clear hz)))
            go_roundw
            case rel => exact ⟨k + 1, by go_num, by omega, by omega, HZ2.out _ Q6.out⟩
            case measure => simp [intOf]; omega
          · have b9 : (vn == 2) = false := by simpa using hdn
            clear hdn HZ2
            go_wp2_with (first | (go_at_call 9; ((with_reducible refine (K2.out _ P1.out).mono ?_); rintro e wz ⟨rfl, hz⟩; have Q1 := Lib.hid hz; clear hz)) | (go_at_call 11; ((with_reducible refine (K3.out _ Q1.out).mono ?_); rintro e wz ⟨rfl, hz⟩; have P2 := Lib.hid hz; clear hz)) | (go_at_call 11; ((with_reducible refine (K4.out _ P2.out).mono ?_); rintro e wz ⟨rfl, hz⟩; have Q2 := Lib.hid hz; clear hz)) | (go_at_call 13; ((with_reducible refine (K5.out _ Q2.out).mono ?_); rintro e wz ⟨rfl, hz⟩; have P3 := Lib.hid hz; clear hz)) | (go_at_call 13; ((with_reducible refine (K6.out _ P3.out).mono ?_); rintro e wz ⟨rfl, hz⟩; have Q3 := Lib.hid hz; clear hz)) | (go_at_call 12; ((with_reducible refine (K7.out _ Q4.out).mono ?_); rintro e wz ⟨rfl, hz⟩; have Q5 := Lib.hid hz; clear hz Q4)) | (go_at_call 12; ((with_reducible refine (K8.out _ P4.out).mono ?_); rintro e wz ⟨rfl, hz⟩; have Q4 := Lib.hid hz; clear hz P4 Q3 P3 Q2)) | (go_at_call 12; ((with_reducible refine (K7.out _ Q3.out).mono ?_); rintro e wz ⟨rfl, hz⟩; have P4 := Lib.hid hz; clear hz)))
            go_roundw
            case rel => exact ⟨k + 1, by go_num, by omega, by omega, HZ1.out _ Q5.out⟩
            case measure => simp [intOf]; omega
        · go_wp2_with (first | (go_at_call 7; ((with_reducible refine (CK.out _).mono ?_); rintro e wz ⟨rfl, rfl⟩)) | (go_at_call 9; ((with_reducible refine (C0.out _ HP.out).mono ?_); rintro e wp ⟨rfl, hz⟩; have HP9 := Lib.hid hz; clear hz)))
          clear HP HP0 HB0 C0 CK
          obtain ⟨e1, he1⟩ : ∃ y, e0 = y := ⟨_, rfl⟩
          rw [he1] at HP9
          clear he1
          obtain ⟨e2, he2⟩ : ∃ y, staE e1 k = y := ⟨_, rfl⟩
          obtain ⟨u2, hu2⟩ : ∃ y, staB e1 k = y := ⟨_, rfl⟩
          obtain ⟨e3, he3⟩ : ∃ y, wrkE e2 k = y := ⟨_, rfl⟩
          obtain ⟨u3, hu3⟩ : ∃ y, wrkB e2 k = y := ⟨_, rfl⟩
          have K3 : Hid (∀ W, PP w W Sa Sb pa pb e1 g2 e1 h → Calls Try.prog 11 #[.pointer (some ⟨pa, 0, none⟩), .int .i64 0, .int .i64 k] W fun r w' => r = .returned (.bool u2) ∧ PP w w' Sa Sb pa pb e2 g2 e1 h) := fun W hp => by rw [← he2, ← hu2]; exact hp.start_a0 k
          have K4 : Hid (∀ W, PP w W Sa Sb pa pb e2 g2 e1 h → Calls Try.prog 11 #[.pointer (some ⟨pb, 0, none⟩), .int .i64 0, .int .i64 k] W fun r w' => r = .returned (.bool u2) ∧ PP w w' Sa Sb pa pb e2 g2 e2 h) := fun W hp => by have := hp.start_b0 k; rw [he2, hu2] at this; exact this
          have K5 : Hid (∀ W, PP w W Sa Sb pa pb e2 g2 e2 h → Calls Try.prog 13 #[.pointer (some ⟨pa, 0, none⟩), .int .i64 0, .int .i64 k] W fun r w' => r = .returned (.bool u3) ∧ PP w w' Sa Sb pa pb e3 g2 e2 h) := fun W hp => by rw [← he3, ← hu3]; exact hp.work_a0 k
          have K6 : Hid (∀ W, PP w W Sa Sb pa pb e3 g2 e2 h → Calls Try.prog 13 #[.pointer (some ⟨pb, 0, none⟩), .int .i64 0, .int .i64 k] W fun r w' => r = .returned (.bool u3) ∧ PP w w' Sa Sb pa pb e3 g2 e3 h) := fun W hp => by have := hp.work_b0 k; rw [he3, hu3] at this; exact this
          have y2 : (u2 != u2) = false := by simp
          have y3 : (u3 != u3) = false := by simp
          have K7 : Hid (∀ W, PP w W Sa Sb pa pb e3 g2 e3 h → Calls Try.prog 12 #[.pointer (some ⟨pa, 0, none⟩), .int .i64 0] W fun r w' => r = .returned (.agg #[.bool e3.a, .int .i64 e3.r, .int .i64 e3.m, .int .i64 e3.n, .bool e3.c]) ∧ PP w w' Sa Sb pa pb e3 g2 e3 h) := fun W hp => hp.state_a
          have K8 : Hid (∀ W, PP w W Sa Sb pa pb e3 g2 e3 h → Calls Try.prog 12 #[.pointer (some ⟨pb, 0, none⟩), .int .i64 0] W fun r w' => r = .returned (.agg #[.bool e3.a, .int .i64 e3.r, .int .i64 e3.m, .int .i64 e3.n, .bool e3.c]) ∧ PP w w' Sa Sb pa pb e3 g2 e3 h) := fun W hp => hp.state_b
          have K9 : Hid (∀ W, PP w W Sa Sb pa pb e3 g2 e3 h → Calls Try.prog 14 #[.pointer (some ⟨pa, 0, none⟩), .int .i64 0] W fun r w' => r = .returned (.bool e3.a) ∧ PP w w' Sa Sb pa pb (ovrE e3) g2 e3 h) := fun W hp => hp.over_a0
          have K10 : Hid (∀ W, PP w W Sa Sb pa pb (ovrE e3) g2 e3 h → Calls Try.prog 14 #[.pointer (some ⟨pb, 0, none⟩), .int .i64 0] W fun r w' => r = .returned (.bool e3.a) ∧ PP w w' Sa Sb pa pb (ovrE e3) g2 (ovrE e3) h) := fun W hp => hp.over_b0
          have HZ1 : Hid (∀ W, PP w W Sa Sb pa pb e3 g2 e3 h → Rel w W pa pb) := fun W hp => ⟨_, _, _, _, _, hp⟩
          have HZ2 : Hid (∀ W, PP w W Sa Sb pa pb (ovrE e3) g2 (ovrE e3) h → Rel w W pa pb) := fun W hp => ⟨_, _, _, _, _, hp⟩
          clear he2 hu2 he3 hu3
          generalize ovrE e3 = e4 at K9 K10 HZ2
          generalize e3.a = va at K7 K8 K9 K10
          generalize e3.r = vr at K7 K8
          generalize e3.m = vm at K7 K8
          generalize e3.n = vn at K7 K8
          generalize e3.c = vc at K7 K8
          have y4 : (va != va) = false := by simp
          have y5 : (vr == vr) = true := by simp
          refine (K3.out _ HP9.out).mono ?_
          rintro e wz ⟨rfl, hz⟩
          have P2 := Lib.hid hz
          clear hz HP9
          by_cases hdn : vn = 2
          · have b9 : (vn == 2) = true := by simpa using hdn
            have HRL : Hid (∀ W, PP w W Sa Sb pa pb e4 g2 e4 h → Rel w W pa pb) := HZ2
            clear hdn HZ1
            go_wp2_with (first | (go_at_call 11; ((with_reducible refine (K4.out _ P2.out).mono ?_); rintro e wz ⟨rfl, hz⟩; have Q2 := Lib.hid hz; clear hz)) | (go_at_call 13; ((with_reducible refine (K5.out _ Q2.out).mono ?_); rintro e wz ⟨rfl, hz⟩; have P3 := Lib.hid hz; clear hz)) | (go_at_call 13; ((with_reducible refine (K6.out _ P3.out).mono ?_); rintro e wz ⟨rfl, hz⟩; have Q3 := Lib.hid hz; clear hz)) | (go_at_call 12; ((with_reducible refine (K7.out _ Q4.out).mono ?_); rintro e wz ⟨rfl, hz⟩; have Q5 := Lib.hid hz; clear hz Q4)) | (go_at_call 12; ((with_reducible refine (K8.out _ P4.out).mono ?_); rintro e wz ⟨rfl, hz⟩; have Q4 := Lib.hid hz; clear hz P4 Q3 P3 Q2)) | (go_at_call 12; ((with_reducible refine (K7.out _ Q3.out).mono ?_); rintro e wz ⟨rfl, hz⟩; have P4 := Lib.hid hz; clear hz)) | (go_at_call 14; ((with_reducible refine (K9.out _ Q5.out).mono ?_); rintro e wz ⟨rfl, hz⟩; have P6 := Lib.hid hz; clear hz)) | (go_at_call 14; ((with_reducible refine (K10.out _ P6.out).mono ?_); rintro e wz ⟨rfl, hz⟩; have Q6 := Lib.hid hz; clear hz)))
            go_roundw
            case rel => exact ⟨k + 1, by go_num, by omega, by omega, HZ2.out _ Q6.out⟩
            case measure => simp [intOf]; omega
          · have b9 : (vn == 2) = false := by simpa using hdn
            clear hdn HZ2
            go_wp2_with (first | (go_at_call 11; ((with_reducible refine (K4.out _ P2.out).mono ?_); rintro e wz ⟨rfl, hz⟩; have Q2 := Lib.hid hz; clear hz)) | (go_at_call 13; ((with_reducible refine (K5.out _ Q2.out).mono ?_); rintro e wz ⟨rfl, hz⟩; have P3 := Lib.hid hz; clear hz)) | (go_at_call 13; ((with_reducible refine (K6.out _ P3.out).mono ?_); rintro e wz ⟨rfl, hz⟩; have Q3 := Lib.hid hz; clear hz)) | (go_at_call 12; ((with_reducible refine (K7.out _ Q4.out).mono ?_); rintro e wz ⟨rfl, hz⟩; have Q5 := Lib.hid hz; clear hz Q4)) | (go_at_call 12; ((with_reducible refine (K8.out _ P4.out).mono ?_); rintro e wz ⟨rfl, hz⟩; have Q4 := Lib.hid hz; clear hz P4 Q3 P3 Q2)) | (go_at_call 12; ((with_reducible refine (K7.out _ Q3.out).mono ?_); rintro e wz ⟨rfl, hz⟩; have P4 := Lib.hid hz; clear hz)))
            go_roundw
            case rel => exact ⟨k + 1, by go_num, by omega, by omega, HZ1.out _ Q5.out⟩
            case measure => simp [intOf]; omega
      · subst hy3
        obtain ⟨g2, hg2⟩ : ∃ y, staE g k = y := ⟨_, rfl⟩
        obtain ⟨u0, hu0⟩ : ∃ y, staB g k = y := ⟨_, rfl⟩
        have C0 : Hid (∀ W, PP w W Sa Sb pa pb e0 g e0 h → Calls Try.prog 11 #[.pointer (some ⟨pa, 0, none⟩), .int .i64 1, .int .i64 k] W fun r w' => r = .returned (.bool u0) ∧ PP w w' Sa Sb pa pb e0 g2 e0 h) := fun W hp => by rw [← hg2, ← hu0]; exact hp.start_a1 k
        clear hy q0 hg2 hu0
        by_cases ht3 : (k : Int) % 3 = 0
        · go_wp2_with (first | (go_at_call 7; ((with_reducible refine (CK.out _).mono ?_); rintro e wz ⟨rfl, rfl⟩)) | (go_at_call 11; ((with_reducible refine (C0.out _ HP.out).mono ?_); rintro e wp ⟨rfl, hz⟩; have HP9 := Lib.hid hz; clear hz)))
          clear HP HP0 HB0 C0 CK
          obtain ⟨e1, he1⟩ : ∃ y, askE e0 2 = y := ⟨_, rfl⟩
          obtain ⟨u1, hu1⟩ : ∃ y, askB e0 2 = y := ⟨_, rfl⟩
          have K1 : Hid (∀ W, PP w W Sa Sb pa pb e0 g2 e0 h → Calls Try.prog 9 #[.pointer (some ⟨pa, 0, none⟩), .int .i64 0, .int .i64 2] W fun r w' => r = .returned (.bool u1) ∧ PP w w' Sa Sb pa pb e1 g2 e0 h) := fun W hp => by rw [← he1, ← hu1]; exact hp.ask_a0 2
          have K2 : Hid (∀ W, PP w W Sa Sb pa pb e1 g2 e0 h → Calls Try.prog 9 #[.pointer (some ⟨pb, 0, none⟩), .int .i64 0, .int .i64 2] W fun r w' => r = .returned (.bool u1) ∧ PP w w' Sa Sb pa pb e1 g2 e1 h) := fun W hp => by have := hp.ask_b0 2; rw [he1, hu1] at this; exact this
          clear he1 hu1
          have y1 : (u1 != u1) = false := by simp
          obtain ⟨e2, he2⟩ : ∃ y, staE e1 k = y := ⟨_, rfl⟩
          obtain ⟨u2, hu2⟩ : ∃ y, staB e1 k = y := ⟨_, rfl⟩
          obtain ⟨e3, he3⟩ : ∃ y, wrkE e2 k = y := ⟨_, rfl⟩
          obtain ⟨u3, hu3⟩ : ∃ y, wrkB e2 k = y := ⟨_, rfl⟩
          have K3 : Hid (∀ W, PP w W Sa Sb pa pb e1 g2 e1 h → Calls Try.prog 11 #[.pointer (some ⟨pa, 0, none⟩), .int .i64 0, .int .i64 k] W fun r w' => r = .returned (.bool u2) ∧ PP w w' Sa Sb pa pb e2 g2 e1 h) := fun W hp => by rw [← he2, ← hu2]; exact hp.start_a0 k
          have K4 : Hid (∀ W, PP w W Sa Sb pa pb e2 g2 e1 h → Calls Try.prog 11 #[.pointer (some ⟨pb, 0, none⟩), .int .i64 0, .int .i64 k] W fun r w' => r = .returned (.bool u2) ∧ PP w w' Sa Sb pa pb e2 g2 e2 h) := fun W hp => by have := hp.start_b0 k; rw [he2, hu2] at this; exact this
          have K5 : Hid (∀ W, PP w W Sa Sb pa pb e2 g2 e2 h → Calls Try.prog 13 #[.pointer (some ⟨pa, 0, none⟩), .int .i64 0, .int .i64 k] W fun r w' => r = .returned (.bool u3) ∧ PP w w' Sa Sb pa pb e3 g2 e2 h) := fun W hp => by rw [← he3, ← hu3]; exact hp.work_a0 k
          have K6 : Hid (∀ W, PP w W Sa Sb pa pb e3 g2 e2 h → Calls Try.prog 13 #[.pointer (some ⟨pb, 0, none⟩), .int .i64 0, .int .i64 k] W fun r w' => r = .returned (.bool u3) ∧ PP w w' Sa Sb pa pb e3 g2 e3 h) := fun W hp => by have := hp.work_b0 k; rw [he3, hu3] at this; exact this
          have y2 : (u2 != u2) = false := by simp
          have y3 : (u3 != u3) = false := by simp
          have K7 : Hid (∀ W, PP w W Sa Sb pa pb e3 g2 e3 h → Calls Try.prog 12 #[.pointer (some ⟨pa, 0, none⟩), .int .i64 0] W fun r w' => r = .returned (.agg #[.bool e3.a, .int .i64 e3.r, .int .i64 e3.m, .int .i64 e3.n, .bool e3.c]) ∧ PP w w' Sa Sb pa pb e3 g2 e3 h) := fun W hp => hp.state_a
          have K8 : Hid (∀ W, PP w W Sa Sb pa pb e3 g2 e3 h → Calls Try.prog 12 #[.pointer (some ⟨pb, 0, none⟩), .int .i64 0] W fun r w' => r = .returned (.agg #[.bool e3.a, .int .i64 e3.r, .int .i64 e3.m, .int .i64 e3.n, .bool e3.c]) ∧ PP w w' Sa Sb pa pb e3 g2 e3 h) := fun W hp => hp.state_b
          have K9 : Hid (∀ W, PP w W Sa Sb pa pb e3 g2 e3 h → Calls Try.prog 14 #[.pointer (some ⟨pa, 0, none⟩), .int .i64 0] W fun r w' => r = .returned (.bool e3.a) ∧ PP w w' Sa Sb pa pb (ovrE e3) g2 e3 h) := fun W hp => hp.over_a0
          have K10 : Hid (∀ W, PP w W Sa Sb pa pb (ovrE e3) g2 e3 h → Calls Try.prog 14 #[.pointer (some ⟨pb, 0, none⟩), .int .i64 0] W fun r w' => r = .returned (.bool e3.a) ∧ PP w w' Sa Sb pa pb (ovrE e3) g2 (ovrE e3) h) := fun W hp => hp.over_b0
          have HZ1 : Hid (∀ W, PP w W Sa Sb pa pb e3 g2 e3 h → Rel w W pa pb) := fun W hp => ⟨_, _, _, _, _, hp⟩
          have HZ2 : Hid (∀ W, PP w W Sa Sb pa pb (ovrE e3) g2 (ovrE e3) h → Rel w W pa pb) := fun W hp => ⟨_, _, _, _, _, hp⟩
          clear he2 hu2 he3 hu3
          generalize ovrE e3 = e4 at K9 K10 HZ2
          generalize e3.a = va at K7 K8 K9 K10
          generalize e3.r = vr at K7 K8
          generalize e3.m = vm at K7 K8
          generalize e3.n = vn at K7 K8
          generalize e3.c = vc at K7 K8
          have y4 : (va != va) = false := by simp
          have y5 : (vr == vr) = true := by simp
          refine (K1.out _ HP9.out).mono ?_
          rintro e wz ⟨rfl, hz⟩
          have P1 := Lib.hid hz
          clear hz HP9
          by_cases hdn : vn = 2
          · have b9 : (vn == 2) = true := by simpa using hdn
            have HRL : Hid (∀ W, PP w W Sa Sb pa pb e4 g2 e4 h → Rel w W pa pb) := HZ2
            clear hdn HZ1
            go_wp2_with (first | (go_at_call 9; ((with_reducible refine (K2.out _ P1.out).mono ?_); rintro e wz ⟨rfl, hz⟩; have Q1 := Lib.hid hz; clear hz)) | (go_at_call 11; ((with_reducible refine (K3.out _ Q1.out).mono ?_); rintro e wz ⟨rfl, hz⟩; have P2 := Lib.hid hz; clear hz)) | (go_at_call 11; ((with_reducible refine (K4.out _ P2.out).mono ?_); rintro e wz ⟨rfl, hz⟩; have Q2 := Lib.hid hz; clear hz)) | (go_at_call 13; ((with_reducible refine (K5.out _ Q2.out).mono ?_); rintro e wz ⟨rfl, hz⟩; have P3 := Lib.hid hz; clear hz)) | (go_at_call 13; ((with_reducible refine (K6.out _ P3.out).mono ?_); rintro e wz ⟨rfl, hz⟩; have Q3 := Lib.hid hz; clear hz)) | (go_at_call 12; ((with_reducible refine (K7.out _ Q4.out).mono ?_); rintro e wz ⟨rfl, hz⟩; have Q5 := Lib.hid hz; clear hz Q4)) | (go_at_call 12; ((with_reducible refine (K8.out _ P4.out).mono ?_); rintro e wz ⟨rfl, hz⟩; have Q4 := Lib.hid hz; clear hz P4 Q3 P3 Q2)) | (go_at_call 12; ((with_reducible refine (K7.out _ Q3.out).mono ?_); rintro e wz ⟨rfl, hz⟩; have P4 := Lib.hid hz; clear hz)) | (go_at_call 14; ((with_reducible refine (K9.out _ Q5.out).mono ?_); rintro e wz ⟨rfl, hz⟩; have P6 := Lib.hid hz; clear hz)) | (go_at_call 14; ((with_reducible refine (K10.out _ P6.out).mono ?_); rintro e wz ⟨rfl, hz⟩; have Q6 := Lib.hid hz; clear hz)))
            go_roundw
            case rel => exact ⟨k + 1, by go_num, by omega, by omega, HZ2.out _ Q6.out⟩
            case measure => simp [intOf]; omega
          · have b9 : (vn == 2) = false := by simpa using hdn
            clear hdn HZ2
            go_wp2_with (first | (go_at_call 9; ((with_reducible refine (K2.out _ P1.out).mono ?_); rintro e wz ⟨rfl, hz⟩; have Q1 := Lib.hid hz; clear hz)) | (go_at_call 11; ((with_reducible refine (K3.out _ Q1.out).mono ?_); rintro e wz ⟨rfl, hz⟩; have P2 := Lib.hid hz; clear hz)) | (go_at_call 11; ((with_reducible refine (K4.out _ P2.out).mono ?_); rintro e wz ⟨rfl, hz⟩; have Q2 := Lib.hid hz; clear hz)) | (go_at_call 13; ((with_reducible refine (K5.out _ Q2.out).mono ?_); rintro e wz ⟨rfl, hz⟩; have P3 := Lib.hid hz; clear hz)) | (go_at_call 13; ((with_reducible refine (K6.out _ P3.out).mono ?_); rintro e wz ⟨rfl, hz⟩; have Q3 := Lib.hid hz; clear hz)) | (go_at_call 12; ((with_reducible refine (K7.out _ Q4.out).mono ?_); rintro e wz ⟨rfl, hz⟩; have Q5 := Lib.hid hz; clear hz Q4)) | (go_at_call 12; ((with_reducible refine (K8.out _ P4.out).mono ?_); rintro e wz ⟨rfl, hz⟩; have Q4 := Lib.hid hz; clear hz P4 Q3 P3 Q2)) | (go_at_call 12; ((with_reducible refine (K7.out _ Q3.out).mono ?_); rintro e wz ⟨rfl, hz⟩; have P4 := Lib.hid hz; clear hz)))
            go_roundw
            case rel => exact ⟨k + 1, by go_num, by omega, by omega, HZ1.out _ Q5.out⟩
            case measure => simp [intOf]; omega
        · go_wp2_with (first | (go_at_call 7; ((with_reducible refine (CK.out _).mono ?_); rintro e wz ⟨rfl, rfl⟩)) | (go_at_call 11; ((with_reducible refine (C0.out _ HP.out).mono ?_); rintro e wp ⟨rfl, hz⟩; have HP9 := Lib.hid hz; clear hz)))
          clear HP HP0 HB0 C0 CK
          obtain ⟨e1, he1⟩ : ∃ y, e0 = y := ⟨_, rfl⟩
          rw [he1] at HP9
          clear he1
          obtain ⟨e2, he2⟩ : ∃ y, staE e1 k = y := ⟨_, rfl⟩
          obtain ⟨u2, hu2⟩ : ∃ y, staB e1 k = y := ⟨_, rfl⟩
          obtain ⟨e3, he3⟩ : ∃ y, wrkE e2 k = y := ⟨_, rfl⟩
          obtain ⟨u3, hu3⟩ : ∃ y, wrkB e2 k = y := ⟨_, rfl⟩
          have K3 : Hid (∀ W, PP w W Sa Sb pa pb e1 g2 e1 h → Calls Try.prog 11 #[.pointer (some ⟨pa, 0, none⟩), .int .i64 0, .int .i64 k] W fun r w' => r = .returned (.bool u2) ∧ PP w w' Sa Sb pa pb e2 g2 e1 h) := fun W hp => by rw [← he2, ← hu2]; exact hp.start_a0 k
          have K4 : Hid (∀ W, PP w W Sa Sb pa pb e2 g2 e1 h → Calls Try.prog 11 #[.pointer (some ⟨pb, 0, none⟩), .int .i64 0, .int .i64 k] W fun r w' => r = .returned (.bool u2) ∧ PP w w' Sa Sb pa pb e2 g2 e2 h) := fun W hp => by have := hp.start_b0 k; rw [he2, hu2] at this; exact this
          have K5 : Hid (∀ W, PP w W Sa Sb pa pb e2 g2 e2 h → Calls Try.prog 13 #[.pointer (some ⟨pa, 0, none⟩), .int .i64 0, .int .i64 k] W fun r w' => r = .returned (.bool u3) ∧ PP w w' Sa Sb pa pb e3 g2 e2 h) := fun W hp => by rw [← he3, ← hu3]; exact hp.work_a0 k
          have K6 : Hid (∀ W, PP w W Sa Sb pa pb e3 g2 e2 h → Calls Try.prog 13 #[.pointer (some ⟨pb, 0, none⟩), .int .i64 0, .int .i64 k] W fun r w' => r = .returned (.bool u3) ∧ PP w w' Sa Sb pa pb e3 g2 e3 h) := fun W hp => by have := hp.work_b0 k; rw [he3, hu3] at this; exact this
          have y2 : (u2 != u2) = false := by simp
          have y3 : (u3 != u3) = false := by simp
          have K7 : Hid (∀ W, PP w W Sa Sb pa pb e3 g2 e3 h → Calls Try.prog 12 #[.pointer (some ⟨pa, 0, none⟩), .int .i64 0] W fun r w' => r = .returned (.agg #[.bool e3.a, .int .i64 e3.r, .int .i64 e3.m, .int .i64 e3.n, .bool e3.c]) ∧ PP w w' Sa Sb pa pb e3 g2 e3 h) := fun W hp => hp.state_a
          have K8 : Hid (∀ W, PP w W Sa Sb pa pb e3 g2 e3 h → Calls Try.prog 12 #[.pointer (some ⟨pb, 0, none⟩), .int .i64 0] W fun r w' => r = .returned (.agg #[.bool e3.a, .int .i64 e3.r, .int .i64 e3.m, .int .i64 e3.n, .bool e3.c]) ∧ PP w w' Sa Sb pa pb e3 g2 e3 h) := fun W hp => hp.state_b
          have K9 : Hid (∀ W, PP w W Sa Sb pa pb e3 g2 e3 h → Calls Try.prog 14 #[.pointer (some ⟨pa, 0, none⟩), .int .i64 0] W fun r w' => r = .returned (.bool e3.a) ∧ PP w w' Sa Sb pa pb (ovrE e3) g2 e3 h) := fun W hp => hp.over_a0
          have K10 : Hid (∀ W, PP w W Sa Sb pa pb (ovrE e3) g2 e3 h → Calls Try.prog 14 #[.pointer (some ⟨pb, 0, none⟩), .int .i64 0] W fun r w' => r = .returned (.bool e3.a) ∧ PP w w' Sa Sb pa pb (ovrE e3) g2 (ovrE e3) h) := fun W hp => hp.over_b0
          have HZ1 : Hid (∀ W, PP w W Sa Sb pa pb e3 g2 e3 h → Rel w W pa pb) := fun W hp => ⟨_, _, _, _, _, hp⟩
          have HZ2 : Hid (∀ W, PP w W Sa Sb pa pb (ovrE e3) g2 (ovrE e3) h → Rel w W pa pb) := fun W hp => ⟨_, _, _, _, _, hp⟩
          clear he2 hu2 he3 hu3
          generalize ovrE e3 = e4 at K9 K10 HZ2
          generalize e3.a = va at K7 K8 K9 K10
          generalize e3.r = vr at K7 K8
          generalize e3.m = vm at K7 K8
          generalize e3.n = vn at K7 K8
          generalize e3.c = vc at K7 K8
          have y4 : (va != va) = false := by simp
          have y5 : (vr == vr) = true := by simp
          refine (K3.out _ HP9.out).mono ?_
          rintro e wz ⟨rfl, hz⟩
          have P2 := Lib.hid hz
          clear hz HP9
          by_cases hdn : vn = 2
          · have b9 : (vn == 2) = true := by simpa using hdn
            have HRL : Hid (∀ W, PP w W Sa Sb pa pb e4 g2 e4 h → Rel w W pa pb) := HZ2
            clear hdn HZ1
            go_wp2_with (first | (go_at_call 11; ((with_reducible refine (K4.out _ P2.out).mono ?_); rintro e wz ⟨rfl, hz⟩; have Q2 := Lib.hid hz; clear hz)) | (go_at_call 13; ((with_reducible refine (K5.out _ Q2.out).mono ?_); rintro e wz ⟨rfl, hz⟩; have P3 := Lib.hid hz; clear hz)) | (go_at_call 13; ((with_reducible refine (K6.out _ P3.out).mono ?_); rintro e wz ⟨rfl, hz⟩; have Q3 := Lib.hid hz; clear hz)) | (go_at_call 12; ((with_reducible refine (K7.out _ Q4.out).mono ?_); rintro e wz ⟨rfl, hz⟩; have Q5 := Lib.hid hz; clear hz Q4)) | (go_at_call 12; ((with_reducible refine (K8.out _ P4.out).mono ?_); rintro e wz ⟨rfl, hz⟩; have Q4 := Lib.hid hz; clear hz P4 Q3 P3 Q2)) | (go_at_call 12; ((with_reducible refine (K7.out _ Q3.out).mono ?_); rintro e wz ⟨rfl, hz⟩; have P4 := Lib.hid hz; clear hz)) | (go_at_call 14; ((with_reducible refine (K9.out _ Q5.out).mono ?_); rintro e wz ⟨rfl, hz⟩; have P6 := Lib.hid hz; clear hz)) | (go_at_call 14; ((with_reducible refine (K10.out _ P6.out).mono ?_); rintro e wz ⟨rfl, hz⟩; have Q6 := Lib.hid hz; clear hz)))
            go_roundw
            case rel => exact ⟨k + 1, by go_num, by omega, by omega, HZ2.out _ Q6.out⟩
            case measure => simp [intOf]; omega
          · have b9 : (vn == 2) = false := by simpa using hdn
            clear hdn HZ2
            go_wp2_with (first | (go_at_call 11; ((with_reducible refine (K4.out _ P2.out).mono ?_); rintro e wz ⟨rfl, hz⟩; have Q2 := Lib.hid hz; clear hz)) | (go_at_call 13; ((with_reducible refine (K5.out _ Q2.out).mono ?_); rintro e wz ⟨rfl, hz⟩; have P3 := Lib.hid hz; clear hz)) | (go_at_call 13; ((with_reducible refine (K6.out _ P3.out).mono ?_); rintro e wz ⟨rfl, hz⟩; have Q3 := Lib.hid hz; clear hz)) | (go_at_call 12; ((with_reducible refine (K7.out _ Q4.out).mono ?_); rintro e wz ⟨rfl, hz⟩; have Q5 := Lib.hid hz; clear hz Q4)) | (go_at_call 12; ((with_reducible refine (K8.out _ P4.out).mono ?_); rintro e wz ⟨rfl, hz⟩; have Q4 := Lib.hid hz; clear hz P4 Q3 P3 Q2)) | (go_at_call 12; ((with_reducible refine (K7.out _ Q3.out).mono ?_); rintro e wz ⟨rfl, hz⟩; have P4 := Lib.hid hz; clear hz)))
            go_roundw
            case rel => exact ⟨k + 1, by go_num, by omega, by omega, HZ1.out _ Q5.out⟩
            case measure => simp [intOf]; omega
      · subst hy3
        obtain ⟨g2, hg2⟩ : ∃ y, wrkE g k = y := ⟨_, rfl⟩
        obtain ⟨u0, hu0⟩ : ∃ y, wrkB g k = y := ⟨_, rfl⟩
        have C0 : Hid (∀ W, PP w W Sa Sb pa pb e0 g e0 h → Calls Try.prog 13 #[.pointer (some ⟨pa, 0, none⟩), .int .i64 1, .int .i64 k] W fun r w' => r = .returned (.bool u0) ∧ PP w w' Sa Sb pa pb e0 g2 e0 h) := fun W hp => by rw [← hg2, ← hu0]; exact hp.work_a1 k
        clear hy q0 hg2 hu0
        by_cases ht3 : (k : Int) % 3 = 0
        · go_wp2_with (first | (go_at_call 7; ((with_reducible refine (CK.out _).mono ?_); rintro e wz ⟨rfl, rfl⟩)) | (go_at_call 13; ((with_reducible refine (C0.out _ HP.out).mono ?_); rintro e wp ⟨rfl, hz⟩; have HP9 := Lib.hid hz; clear hz)))
          clear HP HP0 HB0 C0 CK
          obtain ⟨e1, he1⟩ : ∃ y, askE e0 2 = y := ⟨_, rfl⟩
          obtain ⟨u1, hu1⟩ : ∃ y, askB e0 2 = y := ⟨_, rfl⟩
          have K1 : Hid (∀ W, PP w W Sa Sb pa pb e0 g2 e0 h → Calls Try.prog 9 #[.pointer (some ⟨pa, 0, none⟩), .int .i64 0, .int .i64 2] W fun r w' => r = .returned (.bool u1) ∧ PP w w' Sa Sb pa pb e1 g2 e0 h) := fun W hp => by rw [← he1, ← hu1]; exact hp.ask_a0 2
          have K2 : Hid (∀ W, PP w W Sa Sb pa pb e1 g2 e0 h → Calls Try.prog 9 #[.pointer (some ⟨pb, 0, none⟩), .int .i64 0, .int .i64 2] W fun r w' => r = .returned (.bool u1) ∧ PP w w' Sa Sb pa pb e1 g2 e1 h) := fun W hp => by have := hp.ask_b0 2; rw [he1, hu1] at this; exact this
          clear he1 hu1
          have y1 : (u1 != u1) = false := by simp
          obtain ⟨e2, he2⟩ : ∃ y, staE e1 k = y := ⟨_, rfl⟩
          obtain ⟨u2, hu2⟩ : ∃ y, staB e1 k = y := ⟨_, rfl⟩
          obtain ⟨e3, he3⟩ : ∃ y, wrkE e2 k = y := ⟨_, rfl⟩
          obtain ⟨u3, hu3⟩ : ∃ y, wrkB e2 k = y := ⟨_, rfl⟩
          have K3 : Hid (∀ W, PP w W Sa Sb pa pb e1 g2 e1 h → Calls Try.prog 11 #[.pointer (some ⟨pa, 0, none⟩), .int .i64 0, .int .i64 k] W fun r w' => r = .returned (.bool u2) ∧ PP w w' Sa Sb pa pb e2 g2 e1 h) := fun W hp => by rw [← he2, ← hu2]; exact hp.start_a0 k
          have K4 : Hid (∀ W, PP w W Sa Sb pa pb e2 g2 e1 h → Calls Try.prog 11 #[.pointer (some ⟨pb, 0, none⟩), .int .i64 0, .int .i64 k] W fun r w' => r = .returned (.bool u2) ∧ PP w w' Sa Sb pa pb e2 g2 e2 h) := fun W hp => by have := hp.start_b0 k; rw [he2, hu2] at this; exact this
          have K5 : Hid (∀ W, PP w W Sa Sb pa pb e2 g2 e2 h → Calls Try.prog 13 #[.pointer (some ⟨pa, 0, none⟩), .int .i64 0, .int .i64 k] W fun r w' => r = .returned (.bool u3) ∧ PP w w' Sa Sb pa pb e3 g2 e2 h) := fun W hp => by rw [← he3, ← hu3]; exact hp.work_a0 k
          have K6 : Hid (∀ W, PP w W Sa Sb pa pb e3 g2 e2 h → Calls Try.prog 13 #[.pointer (some ⟨pb, 0, none⟩), .int .i64 0, .int .i64 k] W fun r w' => r = .returned (.bool u3) ∧ PP w w' Sa Sb pa pb e3 g2 e3 h) := fun W hp => by have := hp.work_b0 k; rw [he3, hu3] at this; exact this
          have y2 : (u2 != u2) = false := by simp
          have y3 : (u3 != u3) = false := by simp
          have K7 : Hid (∀ W, PP w W Sa Sb pa pb e3 g2 e3 h → Calls Try.prog 12 #[.pointer (some ⟨pa, 0, none⟩), .int .i64 0] W fun r w' => r = .returned (.agg #[.bool e3.a, .int .i64 e3.r, .int .i64 e3.m, .int .i64 e3.n, .bool e3.c]) ∧ PP w w' Sa Sb pa pb e3 g2 e3 h) := fun W hp => hp.state_a
          have K8 : Hid (∀ W, PP w W Sa Sb pa pb e3 g2 e3 h → Calls Try.prog 12 #[.pointer (some ⟨pb, 0, none⟩), .int .i64 0] W fun r w' => r = .returned (.agg #[.bool e3.a, .int .i64 e3.r, .int .i64 e3.m, .int .i64 e3.n, .bool e3.c]) ∧ PP w w' Sa Sb pa pb e3 g2 e3 h) := fun W hp => hp.state_b
          have K9 : Hid (∀ W, PP w W Sa Sb pa pb e3 g2 e3 h → Calls Try.prog 14 #[.pointer (some ⟨pa, 0, none⟩), .int .i64 0] W fun r w' => r = .returned (.bool e3.a) ∧ PP w w' Sa Sb pa pb (ovrE e3) g2 e3 h) := fun W hp => hp.over_a0
          have K10 : Hid (∀ W, PP w W Sa Sb pa pb (ovrE e3) g2 e3 h → Calls Try.prog 14 #[.pointer (some ⟨pb, 0, none⟩), .int .i64 0] W fun r w' => r = .returned (.bool e3.a) ∧ PP w w' Sa Sb pa pb (ovrE e3) g2 (ovrE e3) h) := fun W hp => hp.over_b0
          have HZ1 : Hid (∀ W, PP w W Sa Sb pa pb e3 g2 e3 h → Rel w W pa pb) := fun W hp => ⟨_, _, _, _, _, hp⟩
          have HZ2 : Hid (∀ W, PP w W Sa Sb pa pb (ovrE e3) g2 (ovrE e3) h → Rel w W pa pb) := fun W hp => ⟨_, _, _, _, _, hp⟩
          clear he2 hu2 he3 hu3
          generalize ovrE e3 = e4 at K9 K10 HZ2
          generalize e3.a = va at K7 K8 K9 K10
          generalize e3.r = vr at K7 K8
          generalize e3.m = vm at K7 K8
          generalize e3.n = vn at K7 K8
          generalize e3.c = vc at K7 K8
          have y4 : (va != va) = false := by simp
          have y5 : (vr == vr) = true := by simp
          refine (K1.out _ HP9.out).mono ?_
          rintro e wz ⟨rfl, hz⟩
          have P1 := Lib.hid hz
          clear hz HP9
          by_cases hdn : vn = 2
          · have b9 : (vn == 2) = true := by simpa using hdn
            have HRL : Hid (∀ W, PP w W Sa Sb pa pb e4 g2 e4 h → Rel w W pa pb) := HZ2
            clear hdn HZ1
            go_wp2_with (first | (go_at_call 9; ((with_reducible refine (K2.out _ P1.out).mono ?_); rintro e wz ⟨rfl, hz⟩; have Q1 := Lib.hid hz; clear hz)) | (go_at_call 11; ((with_reducible refine (K3.out _ Q1.out).mono ?_); rintro e wz ⟨rfl, hz⟩; have P2 := Lib.hid hz; clear hz)) | (go_at_call 11; ((with_reducible refine (K4.out _ P2.out).mono ?_); rintro e wz ⟨rfl, hz⟩; have Q2 := Lib.hid hz; clear hz)) | (go_at_call 13; ((with_reducible refine (K5.out _ Q2.out).mono ?_); rintro e wz ⟨rfl, hz⟩; have P3 := Lib.hid hz; clear hz)) | (go_at_call 13; ((with_reducible refine (K6.out _ P3.out).mono ?_); rintro e wz ⟨rfl, hz⟩; have Q3 := Lib.hid hz; clear hz)) | (go_at_call 12; ((with_reducible refine (K7.out _ Q4.out).mono ?_); rintro e wz ⟨rfl, hz⟩; have Q5 := Lib.hid hz; clear hz Q4)) | (go_at_call 12; ((with_reducible refine (K8.out _ P4.out).mono ?_); rintro e wz ⟨rfl, hz⟩; have Q4 := Lib.hid hz; clear hz P4 Q3 P3 Q2)) | (go_at_call 12; ((with_reducible refine (K7.out _ Q3.out).mono ?_); rintro e wz ⟨rfl, hz⟩; have P4 := Lib.hid hz; clear hz)) | (go_at_call 14; ((with_reducible refine (K9.out _ Q5.out).mono ?_); rintro e wz ⟨rfl, hz⟩; have P6 := Lib.hid hz; clear hz)) | (go_at_call 14; ((with_reducible refine (K10.out _ P6.out).mono ?_); rintro e wz ⟨rfl, hz⟩; have Q6 := Lib.hid hz; clear hz)))
            go_roundw
            case rel => exact ⟨k + 1, by go_num, by omega, by omega, HZ2.out _ Q6.out⟩
            case measure => simp [intOf]; omega
          · have b9 : (vn == 2) = false := by simpa using hdn
            clear hdn HZ2
            go_wp2_with (first | (go_at_call 9; ((with_reducible refine (K2.out _ P1.out).mono ?_); rintro e wz ⟨rfl, hz⟩; have Q1 := Lib.hid hz; clear hz)) | (go_at_call 11; ((with_reducible refine (K3.out _ Q1.out).mono ?_); rintro e wz ⟨rfl, hz⟩; have P2 := Lib.hid hz; clear hz)) | (go_at_call 11; ((with_reducible refine (K4.out _ P2.out).mono ?_); rintro e wz ⟨rfl, hz⟩; have Q2 := Lib.hid hz; clear hz)) | (go_at_call 13; ((with_reducible refine (K5.out _ Q2.out).mono ?_); rintro e wz ⟨rfl, hz⟩; have P3 := Lib.hid hz; clear hz)) | (go_at_call 13; ((with_reducible refine (K6.out _ P3.out).mono ?_); rintro e wz ⟨rfl, hz⟩; have Q3 := Lib.hid hz; clear hz)) | (go_at_call 12; ((with_reducible refine (K7.out _ Q4.out).mono ?_); rintro e wz ⟨rfl, hz⟩; have Q5 := Lib.hid hz; clear hz Q4)) | (go_at_call 12; ((with_reducible refine (K8.out _ P4.out).mono ?_); rintro e wz ⟨rfl, hz⟩; have Q4 := Lib.hid hz; clear hz P4 Q3 P3 Q2)) | (go_at_call 12; ((with_reducible refine (K7.out _ Q3.out).mono ?_); rintro e wz ⟨rfl, hz⟩; have P4 := Lib.hid hz; clear hz)))
            go_roundw
            case rel => exact ⟨k + 1, by go_num, by omega, by omega, HZ1.out _ Q5.out⟩
            case measure => simp [intOf]; omega
        · go_wp2_with (first | (go_at_call 7; ((with_reducible refine (CK.out _).mono ?_); rintro e wz ⟨rfl, rfl⟩)) | (go_at_call 13; ((with_reducible refine (C0.out _ HP.out).mono ?_); rintro e wp ⟨rfl, hz⟩; have HP9 := Lib.hid hz; clear hz)))
          clear HP HP0 HB0 C0 CK
          obtain ⟨e1, he1⟩ : ∃ y, e0 = y := ⟨_, rfl⟩
          rw [he1] at HP9
          clear he1
          obtain ⟨e2, he2⟩ : ∃ y, staE e1 k = y := ⟨_, rfl⟩
          obtain ⟨u2, hu2⟩ : ∃ y, staB e1 k = y := ⟨_, rfl⟩
          obtain ⟨e3, he3⟩ : ∃ y, wrkE e2 k = y := ⟨_, rfl⟩
          obtain ⟨u3, hu3⟩ : ∃ y, wrkB e2 k = y := ⟨_, rfl⟩
          have K3 : Hid (∀ W, PP w W Sa Sb pa pb e1 g2 e1 h → Calls Try.prog 11 #[.pointer (some ⟨pa, 0, none⟩), .int .i64 0, .int .i64 k] W fun r w' => r = .returned (.bool u2) ∧ PP w w' Sa Sb pa pb e2 g2 e1 h) := fun W hp => by rw [← he2, ← hu2]; exact hp.start_a0 k
          have K4 : Hid (∀ W, PP w W Sa Sb pa pb e2 g2 e1 h → Calls Try.prog 11 #[.pointer (some ⟨pb, 0, none⟩), .int .i64 0, .int .i64 k] W fun r w' => r = .returned (.bool u2) ∧ PP w w' Sa Sb pa pb e2 g2 e2 h) := fun W hp => by have := hp.start_b0 k; rw [he2, hu2] at this; exact this
          have K5 : Hid (∀ W, PP w W Sa Sb pa pb e2 g2 e2 h → Calls Try.prog 13 #[.pointer (some ⟨pa, 0, none⟩), .int .i64 0, .int .i64 k] W fun r w' => r = .returned (.bool u3) ∧ PP w w' Sa Sb pa pb e3 g2 e2 h) := fun W hp => by rw [← he3, ← hu3]; exact hp.work_a0 k
          have K6 : Hid (∀ W, PP w W Sa Sb pa pb e3 g2 e2 h → Calls Try.prog 13 #[.pointer (some ⟨pb, 0, none⟩), .int .i64 0, .int .i64 k] W fun r w' => r = .returned (.bool u3) ∧ PP w w' Sa Sb pa pb e3 g2 e3 h) := fun W hp => by have := hp.work_b0 k; rw [he3, hu3] at this; exact this
          have y2 : (u2 != u2) = false := by simp
          have y3 : (u3 != u3) = false := by simp
          have K7 : Hid (∀ W, PP w W Sa Sb pa pb e3 g2 e3 h → Calls Try.prog 12 #[.pointer (some ⟨pa, 0, none⟩), .int .i64 0] W fun r w' => r = .returned (.agg #[.bool e3.a, .int .i64 e3.r, .int .i64 e3.m, .int .i64 e3.n, .bool e3.c]) ∧ PP w w' Sa Sb pa pb e3 g2 e3 h) := fun W hp => hp.state_a
          have K8 : Hid (∀ W, PP w W Sa Sb pa pb e3 g2 e3 h → Calls Try.prog 12 #[.pointer (some ⟨pb, 0, none⟩), .int .i64 0] W fun r w' => r = .returned (.agg #[.bool e3.a, .int .i64 e3.r, .int .i64 e3.m, .int .i64 e3.n, .bool e3.c]) ∧ PP w w' Sa Sb pa pb e3 g2 e3 h) := fun W hp => hp.state_b
          have K9 : Hid (∀ W, PP w W Sa Sb pa pb e3 g2 e3 h → Calls Try.prog 14 #[.pointer (some ⟨pa, 0, none⟩), .int .i64 0] W fun r w' => r = .returned (.bool e3.a) ∧ PP w w' Sa Sb pa pb (ovrE e3) g2 e3 h) := fun W hp => hp.over_a0
          have K10 : Hid (∀ W, PP w W Sa Sb pa pb (ovrE e3) g2 e3 h → Calls Try.prog 14 #[.pointer (some ⟨pb, 0, none⟩), .int .i64 0] W fun r w' => r = .returned (.bool e3.a) ∧ PP w w' Sa Sb pa pb (ovrE e3) g2 (ovrE e3) h) := fun W hp => hp.over_b0
          have HZ1 : Hid (∀ W, PP w W Sa Sb pa pb e3 g2 e3 h → Rel w W pa pb) := fun W hp => ⟨_, _, _, _, _, hp⟩
          have HZ2 : Hid (∀ W, PP w W Sa Sb pa pb (ovrE e3) g2 (ovrE e3) h → Rel w W pa pb) := fun W hp => ⟨_, _, _, _, _, hp⟩
          clear he2 hu2 he3 hu3
          generalize ovrE e3 = e4 at K9 K10 HZ2
          generalize e3.a = va at K7 K8 K9 K10
          generalize e3.r = vr at K7 K8
          generalize e3.m = vm at K7 K8
          generalize e3.n = vn at K7 K8
          generalize e3.c = vc at K7 K8
          have y4 : (va != va) = false := by simp
          have y5 : (vr == vr) = true := by simp
          refine (K3.out _ HP9.out).mono ?_
          rintro e wz ⟨rfl, hz⟩
          have P2 := Lib.hid hz
          clear hz HP9
          by_cases hdn : vn = 2
          · have b9 : (vn == 2) = true := by simpa using hdn
            have HRL : Hid (∀ W, PP w W Sa Sb pa pb e4 g2 e4 h → Rel w W pa pb) := HZ2
            clear hdn HZ1
            go_wp2_with (first | (go_at_call 11; ((with_reducible refine (K4.out _ P2.out).mono ?_); rintro e wz ⟨rfl, hz⟩; have Q2 := Lib.hid hz; clear hz)) | (go_at_call 13; ((with_reducible refine (K5.out _ Q2.out).mono ?_); rintro e wz ⟨rfl, hz⟩; have P3 := Lib.hid hz; clear hz)) | (go_at_call 13; ((with_reducible refine (K6.out _ P3.out).mono ?_); rintro e wz ⟨rfl, hz⟩; have Q3 := Lib.hid hz; clear hz)) | (go_at_call 12; ((with_reducible refine (K7.out _ Q4.out).mono ?_); rintro e wz ⟨rfl, hz⟩; have Q5 := Lib.hid hz; clear hz Q4)) | (go_at_call 12; ((with_reducible refine (K8.out _ P4.out).mono ?_); rintro e wz ⟨rfl, hz⟩; have Q4 := Lib.hid hz; clear hz P4 Q3 P3 Q2)) | (go_at_call 12; ((with_reducible refine (K7.out _ Q3.out).mono ?_); rintro e wz ⟨rfl, hz⟩; have P4 := Lib.hid hz; clear hz)) | (go_at_call 14; ((with_reducible refine (K9.out _ Q5.out).mono ?_); rintro e wz ⟨rfl, hz⟩; have P6 := Lib.hid hz; clear hz)) | (go_at_call 14; ((with_reducible refine (K10.out _ P6.out).mono ?_); rintro e wz ⟨rfl, hz⟩; have Q6 := Lib.hid hz; clear hz)))
            go_roundw
            case rel => exact ⟨k + 1, by go_num, by omega, by omega, HZ2.out _ Q6.out⟩
            case measure => simp [intOf]; omega
          · have b9 : (vn == 2) = false := by simpa using hdn
            clear hdn HZ2
            go_wp2_with (first | (go_at_call 11; ((with_reducible refine (K4.out _ P2.out).mono ?_); rintro e wz ⟨rfl, hz⟩; have Q2 := Lib.hid hz; clear hz)) | (go_at_call 13; ((with_reducible refine (K5.out _ Q2.out).mono ?_); rintro e wz ⟨rfl, hz⟩; have P3 := Lib.hid hz; clear hz)) | (go_at_call 13; ((with_reducible refine (K6.out _ P3.out).mono ?_); rintro e wz ⟨rfl, hz⟩; have Q3 := Lib.hid hz; clear hz)) | (go_at_call 12; ((with_reducible refine (K7.out _ Q4.out).mono ?_); rintro e wz ⟨rfl, hz⟩; have Q5 := Lib.hid hz; clear hz Q4)) | (go_at_call 12; ((with_reducible refine (K8.out _ P4.out).mono ?_); rintro e wz ⟨rfl, hz⟩; have Q4 := Lib.hid hz; clear hz P4 Q3 P3 Q2)) | (go_at_call 12; ((with_reducible refine (K7.out _ Q3.out).mono ?_); rintro e wz ⟨rfl, hz⟩; have P4 := Lib.hid hz; clear hz)))
            go_roundw
            case rel => exact ⟨k + 1, by go_num, by omega, by omega, HZ1.out _ Q5.out⟩
            case measure => simp [intOf]; omega
      · subst hy3
        obtain ⟨g2, hg2⟩ : ∃ y, ovrE g = y := ⟨_, rfl⟩
        obtain ⟨u0, hu0⟩ : ∃ y, g.a = y := ⟨_, rfl⟩
        have C0 : Hid (∀ W, PP w W Sa Sb pa pb e0 g e0 h → Calls Try.prog 14 #[.pointer (some ⟨pa, 0, none⟩), .int .i64 1] W fun r w' => r = .returned (.bool u0) ∧ PP w w' Sa Sb pa pb e0 g2 e0 h) := fun W hp => by rw [← hg2, ← hu0]; exact hp.over_a1
        clear hy q0 hg2 hu0
        by_cases ht3 : (k : Int) % 3 = 0
        · go_wp2_with (first | (go_at_call 7; ((with_reducible refine (CK.out _).mono ?_); rintro e wz ⟨rfl, rfl⟩)) | (go_at_call 14; ((with_reducible refine (C0.out _ HP.out).mono ?_); rintro e wp ⟨rfl, hz⟩; have HP9 := Lib.hid hz; clear hz)))
          clear HP HP0 HB0 C0 CK
          obtain ⟨e1, he1⟩ : ∃ y, askE e0 2 = y := ⟨_, rfl⟩
          obtain ⟨u1, hu1⟩ : ∃ y, askB e0 2 = y := ⟨_, rfl⟩
          have K1 : Hid (∀ W, PP w W Sa Sb pa pb e0 g2 e0 h → Calls Try.prog 9 #[.pointer (some ⟨pa, 0, none⟩), .int .i64 0, .int .i64 2] W fun r w' => r = .returned (.bool u1) ∧ PP w w' Sa Sb pa pb e1 g2 e0 h) := fun W hp => by rw [← he1, ← hu1]; exact hp.ask_a0 2
          have K2 : Hid (∀ W, PP w W Sa Sb pa pb e1 g2 e0 h → Calls Try.prog 9 #[.pointer (some ⟨pb, 0, none⟩), .int .i64 0, .int .i64 2] W fun r w' => r = .returned (.bool u1) ∧ PP w w' Sa Sb pa pb e1 g2 e1 h) := fun W hp => by have := hp.ask_b0 2; rw [he1, hu1] at this; exact this
          clear he1 hu1
          have y1 : (u1 != u1) = false := by simp
          obtain ⟨e2, he2⟩ : ∃ y, staE e1 k = y := ⟨_, rfl⟩
          obtain ⟨u2, hu2⟩ : ∃ y, staB e1 k = y := ⟨_, rfl⟩
          obtain ⟨e3, he3⟩ : ∃ y, wrkE e2 k = y := ⟨_, rfl⟩
          obtain ⟨u3, hu3⟩ : ∃ y, wrkB e2 k = y := ⟨_, rfl⟩
          have K3 : Hid (∀ W, PP w W Sa Sb pa pb e1 g2 e1 h → Calls Try.prog 11 #[.pointer (some ⟨pa, 0, none⟩), .int .i64 0, .int .i64 k] W fun r w' => r = .returned (.bool u2) ∧ PP w w' Sa Sb pa pb e2 g2 e1 h) := fun W hp => by rw [← he2, ← hu2]; exact hp.start_a0 k
          have K4 : Hid (∀ W, PP w W Sa Sb pa pb e2 g2 e1 h → Calls Try.prog 11 #[.pointer (some ⟨pb, 0, none⟩), .int .i64 0, .int .i64 k] W fun r w' => r = .returned (.bool u2) ∧ PP w w' Sa Sb pa pb e2 g2 e2 h) := fun W hp => by have := hp.start_b0 k; rw [he2, hu2] at this; exact this
          have K5 : Hid (∀ W, PP w W Sa Sb pa pb e2 g2 e2 h → Calls Try.prog 13 #[.pointer (some ⟨pa, 0, none⟩), .int .i64 0, .int .i64 k] W fun r w' => r = .returned (.bool u3) ∧ PP w w' Sa Sb pa pb e3 g2 e2 h) := fun W hp => by rw [← he3, ← hu3]; exact hp.work_a0 k
          have K6 : Hid (∀ W, PP w W Sa Sb pa pb e3 g2 e2 h → Calls Try.prog 13 #[.pointer (some ⟨pb, 0, none⟩), .int .i64 0, .int .i64 k] W fun r w' => r = .returned (.bool u3) ∧ PP w w' Sa Sb pa pb e3 g2 e3 h) := fun W hp => by have := hp.work_b0 k; rw [he3, hu3] at this; exact this
          have y2 : (u2 != u2) = false := by simp
          have y3 : (u3 != u3) = false := by simp
          have K7 : Hid (∀ W, PP w W Sa Sb pa pb e3 g2 e3 h → Calls Try.prog 12 #[.pointer (some ⟨pa, 0, none⟩), .int .i64 0] W fun r w' => r = .returned (.agg #[.bool e3.a, .int .i64 e3.r, .int .i64 e3.m, .int .i64 e3.n, .bool e3.c]) ∧ PP w w' Sa Sb pa pb e3 g2 e3 h) := fun W hp => hp.state_a
          have K8 : Hid (∀ W, PP w W Sa Sb pa pb e3 g2 e3 h → Calls Try.prog 12 #[.pointer (some ⟨pb, 0, none⟩), .int .i64 0] W fun r w' => r = .returned (.agg #[.bool e3.a, .int .i64 e3.r, .int .i64 e3.m, .int .i64 e3.n, .bool e3.c]) ∧ PP w w' Sa Sb pa pb e3 g2 e3 h) := fun W hp => hp.state_b
          have K9 : Hid (∀ W, PP w W Sa Sb pa pb e3 g2 e3 h → Calls Try.prog 14 #[.pointer (some ⟨pa, 0, none⟩), .int .i64 0] W fun r w' => r = .returned (.bool e3.a) ∧ PP w w' Sa Sb pa pb (ovrE e3) g2 e3 h) := fun W hp => hp.over_a0
          have K10 : Hid (∀ W, PP w W Sa Sb pa pb (ovrE e3) g2 e3 h → Calls Try.prog 14 #[.pointer (some ⟨pb, 0, none⟩), .int .i64 0] W fun r w' => r = .returned (.bool e3.a) ∧ PP w w' Sa Sb pa pb (ovrE e3) g2 (ovrE e3) h) := fun W hp => hp.over_b0
          have HZ1 : Hid (∀ W, PP w W Sa Sb pa pb e3 g2 e3 h → Rel w W pa pb) := fun W hp => ⟨_, _, _, _, _, hp⟩
          have HZ2 : Hid (∀ W, PP w W Sa Sb pa pb (ovrE e3) g2 (ovrE e3) h → Rel w W pa pb) := fun W hp => ⟨_, _, _, _, _, hp⟩
          clear he2 hu2 he3 hu3
          generalize ovrE e3 = e4 at K9 K10 HZ2
          generalize e3.a = va at K7 K8 K9 K10
          generalize e3.r = vr at K7 K8
          generalize e3.m = vm at K7 K8
          generalize e3.n = vn at K7 K8
          generalize e3.c = vc at K7 K8
          have y4 : (va != va) = false := by simp
          have y5 : (vr == vr) = true := by simp
          refine (K1.out _ HP9.out).mono ?_
          rintro e wz ⟨rfl, hz⟩
          have P1 := Lib.hid hz
          clear hz HP9
          by_cases hdn : vn = 2
          · have b9 : (vn == 2) = true := by simpa using hdn
            have HRL : Hid (∀ W, PP w W Sa Sb pa pb e4 g2 e4 h → Rel w W pa pb) := HZ2
            clear hdn HZ1
            go_wp2_with (first | (go_at_call 9; ((with_reducible refine (K2.out _ P1.out).mono ?_); rintro e wz ⟨rfl, hz⟩; have Q1 := Lib.hid hz; clear hz)) | (go_at_call 11; ((with_reducible refine (K3.out _ Q1.out).mono ?_); rintro e wz ⟨rfl, hz⟩; have P2 := Lib.hid hz; clear hz)) | (go_at_call 11; ((with_reducible refine (K4.out _ P2.out).mono ?_); rintro e wz ⟨rfl, hz⟩; have Q2 := Lib.hid hz; clear hz)) | (go_at_call 13; ((with_reducible refine (K5.out _ Q2.out).mono ?_); rintro e wz ⟨rfl, hz⟩; have P3 := Lib.hid hz; clear hz)) | (go_at_call 13; ((with_reducible refine (K6.out _ P3.out).mono ?_); rintro e wz ⟨rfl, hz⟩; have Q3 := Lib.hid hz; clear hz)) | (go_at_call 12; ((with_reducible refine (K7.out _ Q4.out).mono ?_); rintro e wz ⟨rfl, hz⟩; have Q5 := Lib.hid hz; clear hz Q4)) | (go_at_call 12; ((with_reducible refine (K8.out _ P4.out).mono ?_); rintro e wz ⟨rfl, hz⟩; have Q4 := Lib.hid hz; clear hz P4 Q3 P3 Q2)) | (go_at_call 12; ((with_reducible refine (K7.out _ Q3.out).mono ?_); rintro e wz ⟨rfl, hz⟩; have P4 := Lib.hid hz; clear hz)) | (go_at_call 14; ((with_reducible refine (K9.out _ Q5.out).mono ?_); rintro e wz ⟨rfl, hz⟩; have P6 := Lib.hid hz; clear hz)) | (go_at_call 14; ((with_reducible refine (K10.out _ P6.out).mono ?_); rintro e wz ⟨rfl, hz⟩; have Q6 := Lib.hid hz; clear hz)))
            go_roundw
            case rel => exact ⟨k + 1, by go_num, by omega, by omega, HZ2.out _ Q6.out⟩
            case measure => simp [intOf]; omega
          · have b9 : (vn == 2) = false := by simpa using hdn
            clear hdn HZ2
            go_wp2_with (first | (go_at_call 9; ((with_reducible refine (K2.out _ P1.out).mono ?_); rintro e wz ⟨rfl, hz⟩; have Q1 := Lib.hid hz; clear hz)) | (go_at_call 11; ((with_reducible refine (K3.out _ Q1.out).mono ?_); rintro e wz ⟨rfl, hz⟩; have P2 := Lib.hid hz; clear hz)) | (go_at_call 11; ((with_reducible refine (K4.out _ P2.out).mono ?_); rintro e wz ⟨rfl, hz⟩; have Q2 := Lib.hid hz; clear hz)) | (go_at_call 13; ((with_reducible refine (K5.out _ Q2.out).mono ?_); rintro e wz ⟨rfl, hz⟩; have P3 := Lib.hid hz; clear hz)) | (go_at_call 13; ((with_reducible refine (K6.out _ P3.out).mono ?_); rintro e wz ⟨rfl, hz⟩; have Q3 := Lib.hid hz; clear hz)) | (go_at_call 12; ((with_reducible refine (K7.out _ Q4.out).mono ?_); rintro e wz ⟨rfl, hz⟩; have Q5 := Lib.hid hz; clear hz Q4)) | (go_at_call 12; ((with_reducible refine (K8.out _ P4.out).mono ?_); rintro e wz ⟨rfl, hz⟩; have Q4 := Lib.hid hz; clear hz P4 Q3 P3 Q2)) | (go_at_call 12; ((with_reducible refine (K7.out _ Q3.out).mono ?_); rintro e wz ⟨rfl, hz⟩; have P4 := Lib.hid hz; clear hz)))
            go_roundw
            case rel => exact ⟨k + 1, by go_num, by omega, by omega, HZ1.out _ Q5.out⟩
            case measure => simp [intOf]; omega
        · go_wp2_with (first | (go_at_call 7; ((with_reducible refine (CK.out _).mono ?_); rintro e wz ⟨rfl, rfl⟩)) | (go_at_call 14; ((with_reducible refine (C0.out _ HP.out).mono ?_); rintro e wp ⟨rfl, hz⟩; have HP9 := Lib.hid hz; clear hz)))
          clear HP HP0 HB0 C0 CK
          obtain ⟨e1, he1⟩ : ∃ y, e0 = y := ⟨_, rfl⟩
          rw [he1] at HP9
          clear he1
          obtain ⟨e2, he2⟩ : ∃ y, staE e1 k = y := ⟨_, rfl⟩
          obtain ⟨u2, hu2⟩ : ∃ y, staB e1 k = y := ⟨_, rfl⟩
          obtain ⟨e3, he3⟩ : ∃ y, wrkE e2 k = y := ⟨_, rfl⟩
          obtain ⟨u3, hu3⟩ : ∃ y, wrkB e2 k = y := ⟨_, rfl⟩
          have K3 : Hid (∀ W, PP w W Sa Sb pa pb e1 g2 e1 h → Calls Try.prog 11 #[.pointer (some ⟨pa, 0, none⟩), .int .i64 0, .int .i64 k] W fun r w' => r = .returned (.bool u2) ∧ PP w w' Sa Sb pa pb e2 g2 e1 h) := fun W hp => by rw [← he2, ← hu2]; exact hp.start_a0 k
          have K4 : Hid (∀ W, PP w W Sa Sb pa pb e2 g2 e1 h → Calls Try.prog 11 #[.pointer (some ⟨pb, 0, none⟩), .int .i64 0, .int .i64 k] W fun r w' => r = .returned (.bool u2) ∧ PP w w' Sa Sb pa pb e2 g2 e2 h) := fun W hp => by have := hp.start_b0 k; rw [he2, hu2] at this; exact this
          have K5 : Hid (∀ W, PP w W Sa Sb pa pb e2 g2 e2 h → Calls Try.prog 13 #[.pointer (some ⟨pa, 0, none⟩), .int .i64 0, .int .i64 k] W fun r w' => r = .returned (.bool u3) ∧ PP w w' Sa Sb pa pb e3 g2 e2 h) := fun W hp => by rw [← he3, ← hu3]; exact hp.work_a0 k
          have K6 : Hid (∀ W, PP w W Sa Sb pa pb e3 g2 e2 h → Calls Try.prog 13 #[.pointer (some ⟨pb, 0, none⟩), .int .i64 0, .int .i64 k] W fun r w' => r = .returned (.bool u3) ∧ PP w w' Sa Sb pa pb e3 g2 e3 h) := fun W hp => by have := hp.work_b0 k; rw [he3, hu3] at this; exact this
          have y2 : (u2 != u2) = false := by simp
          have y3 : (u3 != u3) = false := by simp
          have K7 : Hid (∀ W, PP w W Sa Sb pa pb e3 g2 e3 h → Calls Try.prog 12 #[.pointer (some ⟨pa, 0, none⟩), .int .i64 0] W fun r w' => r = .returned (.agg #[.bool e3.a, .int .i64 e3.r, .int .i64 e3.m, .int .i64 e3.n, .bool e3.c]) ∧ PP w w' Sa Sb pa pb e3 g2 e3 h) := fun W hp => hp.state_a
          have K8 : Hid (∀ W, PP w W Sa Sb pa pb e3 g2 e3 h → Calls Try.prog 12 #[.pointer (some ⟨pb, 0, none⟩), .int .i64 0] W fun r w' => r = .returned (.agg #[.bool e3.a, .int .i64 e3.r, .int .i64 e3.m, .int .i64 e3.n, .bool e3.c]) ∧ PP w w' Sa Sb pa pb e3 g2 e3 h) := fun W hp => hp.state_b
          have K9 : Hid (∀ W, PP w W Sa Sb pa pb e3 g2 e3 h → Calls Try.prog 14 #[.pointer (some ⟨pa, 0, none⟩), .int .i64 0] W fun r w' => r = .returned (.bool e3.a) ∧ PP w w' Sa Sb pa pb (ovrE e3) g2 e3 h) := fun W hp => hp.over_a0
          have K10 : Hid (∀ W, PP w W Sa Sb pa pb (ovrE e3) g2 e3 h → Calls Try.prog 14 #[.pointer (some ⟨pb, 0, none⟩), .int .i64 0] W fun r w' => r = .returned (.bool e3.a) ∧ PP w w' Sa Sb pa pb (ovrE e3) g2 (ovrE e3) h) := fun W hp => hp.over_b0
          have HZ1 : Hid (∀ W, PP w W Sa Sb pa pb e3 g2 e3 h → Rel w W pa pb) := fun W hp => ⟨_, _, _, _, _, hp⟩
          have HZ2 : Hid (∀ W, PP w W Sa Sb pa pb (ovrE e3) g2 (ovrE e3) h → Rel w W pa pb) := fun W hp => ⟨_, _, _, _, _, hp⟩
          clear he2 hu2 he3 hu3
          generalize ovrE e3 = e4 at K9 K10 HZ2
          generalize e3.a = va at K7 K8 K9 K10
          generalize e3.r = vr at K7 K8
          generalize e3.m = vm at K7 K8
          generalize e3.n = vn at K7 K8
          generalize e3.c = vc at K7 K8
          have y4 : (va != va) = false := by simp
          have y5 : (vr == vr) = true := by simp
          refine (K3.out _ HP9.out).mono ?_
          rintro e wz ⟨rfl, hz⟩
          have P2 := Lib.hid hz
          clear hz HP9
          by_cases hdn : vn = 2
          · have b9 : (vn == 2) = true := by simpa using hdn
            have HRL : Hid (∀ W, PP w W Sa Sb pa pb e4 g2 e4 h → Rel w W pa pb) := HZ2
            clear hdn HZ1
            go_wp2_with (first | (go_at_call 11; ((with_reducible refine (K4.out _ P2.out).mono ?_); rintro e wz ⟨rfl, hz⟩; have Q2 := Lib.hid hz; clear hz)) | (go_at_call 13; ((with_reducible refine (K5.out _ Q2.out).mono ?_); rintro e wz ⟨rfl, hz⟩; have P3 := Lib.hid hz; clear hz)) | (go_at_call 13; ((with_reducible refine (K6.out _ P3.out).mono ?_); rintro e wz ⟨rfl, hz⟩; have Q3 := Lib.hid hz; clear hz)) | (go_at_call 12; ((with_reducible refine (K7.out _ Q4.out).mono ?_); rintro e wz ⟨rfl, hz⟩; have Q5 := Lib.hid hz; clear hz Q4)) | (go_at_call 12; ((with_reducible refine (K8.out _ P4.out).mono ?_); rintro e wz ⟨rfl, hz⟩; have Q4 := Lib.hid hz; clear hz P4 Q3 P3 Q2)) | (go_at_call 12; ((with_reducible refine (K7.out _ Q3.out).mono ?_); rintro e wz ⟨rfl, hz⟩; have P4 := Lib.hid hz; clear hz)) | (go_at_call 14; ((with_reducible refine (K9.out _ Q5.out).mono ?_); rintro e wz ⟨rfl, hz⟩; have P6 := Lib.hid hz; clear hz)) | (go_at_call 14; ((with_reducible refine (K10.out _ P6.out).mono ?_); rintro e wz ⟨rfl, hz⟩; have Q6 := Lib.hid hz; clear hz)))
            go_roundw
            case rel => exact ⟨k + 1, by go_num, by omega, by omega, HZ2.out _ Q6.out⟩
            case measure => simp [intOf]; omega
          · have b9 : (vn == 2) = false := by simpa using hdn
            clear hdn HZ2
            go_wp2_with (first | (go_at_call 11; ((with_reducible refine (K4.out _ P2.out).mono ?_); rintro e wz ⟨rfl, hz⟩; have Q2 := Lib.hid hz; clear hz)) | (go_at_call 13; ((with_reducible refine (K5.out _ Q2.out).mono ?_); rintro e wz ⟨rfl, hz⟩; have P3 := Lib.hid hz; clear hz)) | (go_at_call 13; ((with_reducible refine (K6.out _ P3.out).mono ?_); rintro e wz ⟨rfl, hz⟩; have Q3 := Lib.hid hz; clear hz)) | (go_at_call 12; ((with_reducible refine (K7.out _ Q4.out).mono ?_); rintro e wz ⟨rfl, hz⟩; have Q5 := Lib.hid hz; clear hz Q4)) | (go_at_call 12; ((with_reducible refine (K8.out _ P4.out).mono ?_); rintro e wz ⟨rfl, hz⟩; have Q4 := Lib.hid hz; clear hz P4 Q3 P3 Q2)) | (go_at_call 12; ((with_reducible refine (K7.out _ Q3.out).mono ?_); rintro e wz ⟨rfl, hz⟩; have P4 := Lib.hid hz; clear hz)))
            go_roundw
            case rel => exact ⟨k + 1, by go_num, by omega, by omega, HZ1.out _ Q5.out⟩
            case measure => simp [intOf]; omega
    · by_cases h1 : k < n
      · have h2 : ¬ k < 100 := fun h2 => hgo ⟨h1, h2⟩
        have kn' : (k : Int) < (n : Int) := by omega
        have b1 : decide ((k : Int) < (n : Int)) = true := by simp; omega
        have b2 : decide ((k : Int) < 100) = false := by simp; omega
        clear hgo
        go_wp2
        go_ret
        exact ⟨rfl, HP0.out.a.but⟩
      · have b1 : decide ((k : Int) < (n : Int)) = false := by simp; omega
        clear hgo
        go_wp2
        go_ret
        exact ⟨rfl, HP0.out.a.but⟩
end jobEach
end Go.Proofs.Ytekgnofmldpifaa
