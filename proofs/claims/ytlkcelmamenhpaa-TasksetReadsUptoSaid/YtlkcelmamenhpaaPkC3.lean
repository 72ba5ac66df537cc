/- Rows of numbers that a call makes by appends; appendNumber; the string of a row of bytes. -/
import Derived.Test.YtlkcelmamenhpaaPkC2
namespace Go.Proofs.Ytlkcelmamenhpaa
open Go.ChangeShapes Go.WideShapes Go.ChangeAt Go.RowKit Go.Deep
def cv (k : IntKind) (n : Nat) : Value := .int k (n : Int)
/-- v is a row of numbers of the call's own (which began at w0). -/
structure Oc (e : TypeId) (k : IntKind) (w0 w : World) (v : Value) (ns : List Nat) : Prop where
  own : w.ownsRow 0 e 1 v ns.length (ns.map (cv k))
  but : But No w0 w
  new : ∀ j, v.ownBlock = some j → w0.heap.size ≤ j
section
variable {e : TypeId} {k : IntKind} {w0 w w2 : World} {v : Value} {ns : List Nat} {n c : Nat} {A : Option Addr}
theorem Oc.nil (hb : But No w0 w) : Oc e k w0 w (.slice none 0 0) [] := ⟨World.ownsRow_nil _ _ _ _, hb, own_none⟩
theorem Oc.row (h : Oc e k w0 w v ns) (hn : ns.length = n) : w.ownsRow 0 e 1 v n (ns.map (cv k)) := by rw [← hn]; exact h.own
theorem Oc.step (h : Oc e k w0 w v ns) (hb : But No w w2) : Oc e k w0 w2 v ns := ⟨owns_but h.own hb (fun _ _ f => f), h.but.trans hb, h.new⟩
theorem Oc.app (h : Oc e k w0 w v ns) (hn : ns.length = n) (x : Nat) (o : Obj) (ho : w2.ownsRow 0 e 1 (.slice A (n + 1) c) (n + 1) (ns.map (cv k) ++ [.int k (x : Int)]))
    (hg : (w.alloc o).grownBy w2 v.ownBlock) (hat : (Value.slice A (n + 1) c).ownBlock = v.ownBlock ∨ (Value.slice A (n + 1) c).ownBlock = some (w.alloc o).heap.size) :
    Oc e k w0 w2 (.slice A (n + 1) c) (ns ++ [x]) := by
  refine ⟨?_, (h.but.alloc _).grown hg (fun j e => .inr (h.new j e)), own_new h.new hat ?_⟩
  · rw [List.length_append, List.map_append, hn]; exact ho
  · have := h.but.size; simp; omega
theorem Oc.start (h : Oc e k w0 w v ns) (hb : But No w2 w0) : Oc e k w2 w v ns := ⟨h.own, hb.trans h.but, fun j hj => Nat.le_trans hb.size (h.new j hj)⟩
end
theorem one_reads8 (w : World) (e : TypeId) (k : IntKind) (a : Int) : Reads (w.alloc (.cells #[.int k a] e)) (w.heap.size + 1) 1 (some ⟨w.heap.size, 0, none⟩) 1 [.int k a] :=
  ⟨rfl, fun _ => ⟨_, rfl, Nat.lt_succ_self _, World.news_of_block (cs := #[.int k a]) (t := e) (fr := (0, 0)) (Blk.new w _ _)⟩⟩
theorem one_cell8 (k : IntKind) (a : Int) : ∀ u ∈ [Value.int k a], u.oneCell' = true := by simp [Value.oneCell']
theorem info5 : (Try.prog.info? 5).map (fun i => (i.zero, i.size, i.bytes)) = some (some (.int .u8 0), 1, 1) := by kernel_rfl
theorem or128 : ∀ x : Nat, x < 256 → x ||| 128 = 128 + x % 128 := by decide +kernel
def RetRow (e : TypeId) (k : IntKind) (w0 : World) (ns : List Nat) (r : Ending) (w' : World) : Prop := ∃ A n c, r = .returned (.slice A n c) ∧ ns.length = n ∧ Oc e k w0 w' (.slice A n c) ns
theorem enc7_pos (m : Nat) : 0 < (enc7 m).length := List.length_pos_iff.2 (enc7_ne m)
set_option maxRecDepth 100000 in
set_option maxHeartbeats 1000000 in
theorem appendNumber_any (A : Option Addr) (n c : Nat) (ns : List Nat) (m : Nat) (w0 w : World) (hn : ns.length = n) (h : Oc 5 .u8 w0 w (.slice A n c) ns) (hm : m ≤ 4611686018427387904) (hl : n ≤ 100000) :
    Calls Try.prog 33 #[.slice A n c, .int .u64 (m : Int)] w (RetRow 5 .u8 w0 (ns ++ enc7 m)) := by
  obtain ⟨i0, hi0, hi1, hi2, hi3⟩ := info_parts info5
  have I0 : Hid (Try.prog.info? 5 = some i0 ∧ i0.zero = some (.int .u8 0) ∧ i0.size = 1 ∧ i0.bytes = 1) := ⟨hi0, hi1, hi2, hi3⟩
  clear hi0 hi1 hi2 hi3
  have hel := enc7_len_le hm
  have HN := Lib.hid hn
  have HH := Lib.hid h
  clear hn h
  go_enter Try.func33, Try.ntmps33
  go_wp2
  go_loopw [0, 1] (fun u x wr => ∃ (A' : Option Addr) (n' c' : Nat) (ns' : List Nat) (m' : Nat), u = .slice A' n' c' ∧ x = .int .u64 (m' : Int) ∧ m' ≤ 4611686018427387904 ∧ n' ≤ 100010 ∧ Hid (ns'.length = n') ∧ Hid (Oc 5 .u8 w0 wr (.slice A' n' c') ns') ∧ Hid (ns' ++ enc7 m' = ns ++ enc7 m)) (fun _ x _ => (intOf x).toNat)
  case atStart => exact ⟨A, n, c, ns, m, rfl, rfl, hm, by omega, HN, HH, rfl⟩
  case round =>
    obtain ⟨A', n', c', ns', m', rfl, rfl, hm', hn', HL, HO, HE⟩ := hrel
    have hlen : n' + (enc7 m').length = n + (enc7 m).length := by
      have := congrArg List.length HE.out
      rw [List.length_append, List.length_append, HL.out, HN.out] at this
      exact this
    have hp := enc7_pos m'
    have ROW := Lib.hid (HO.out.row HL.out)
    clear HN HH
    by_cases hg : m' < 128
    · have HQ : Hid (ns' ++ [m'] = ns ++ enc7 m) := by show _ = _; rw [← HE.out, enc7_small hg]
      clear HE
      have hge : decide ((128 : Int) ≤ (m' : Int)) = false := by simp; omega
      have hx : (m' : Int) % 256 = (m' : Int) := by omega
      go_wp2_with (at_builtin; refine wpList_append_sh _ rfl _ _ 69 rfl 5 i0 _ 1 1 Try.underlying69 I0.out.1 I0.out.2.1 I0.out.2.2.1 I0.out.2.2.2 rfl (by omega) (.slice A' n' c') n' _ rfl (ROW.out.alloc _) (wr.heap.size + 1) (some ⟨wr.heap.size, 0, none⟩) 1 1 [.int .u8 (m' : Int)] rfl (one_reads8 wr 5 .u8 _) (one_cell8 .u8 _) (by unfold maxLen; omega) (by omega) ?_; intro A3 c3 w3 hown hgrow hat; have HF := Lib.hid (HO.out.app HL.out m' _ hown hgrow hat); clear hown hgrow hat)
      go_ret
      exact ⟨A3, n' + 1, c3, rfl, by rw [← HQ.out, List.length_append, HL.out]; rfl, by rw [← HQ.out]; exact HF.out⟩
    · have hx : bits BinOp.or IntKind.u8 ((m' : Int) % 256) 128 = ((128 + m' % 128 : Nat) : Int) := by
        have := u8_or_nat (m' % 256) 128 (by omega) (by omega)
        rw [or128 _ (by omega)] at this
        rw [show ((m' : Int) % 256) = ((m' % 256 : Nat) : Int) by omega, show 128 + m' % 128 = 128 + m' % 256 % 128 by omega]
        exact this
      have HQ : Hid ((ns' ++ [128 + m' % 128]) ++ enc7 (m' / 128) = ns ++ enc7 m) := by show _ = _; rw [← HE.out, enc7_great hg, List.append_assoc]; rfl
      clear HE
      obtain ⟨y, hy⟩ : ∃ y, 128 + m' % 128 = y := ⟨_, rfl⟩
      rw [hy] at hx HQ
      clear hy
      have hge : decide ((128 : Int) ≤ (m' : Int)) = true := by simp; omega
      go_wp2_with (at_builtin; refine wpList_append_sh _ rfl _ _ 69 rfl 5 i0 _ 1 1 Try.underlying69 I0.out.1 I0.out.2.1 I0.out.2.2.1 I0.out.2.2.2 rfl (by omega) (.slice A' n' c') n' _ rfl (ROW.out.alloc _) (wr.heap.size + 1) (some ⟨wr.heap.size, 0, none⟩) 1 1 [.int .u8 (y : Int)] rfl (one_reads8 wr 5 .u8 _) (one_cell8 .u8 _) (by unfold maxLen; omega) (by omega) ?_; intro A3 c3 w3 hown hgrow hat; have HF := Lib.hid (HO.out.app HL.out y _ hown hgrow hat); clear hown hgrow hat)
      go_roundw
      case rel => exact ⟨A3, n' + 1, c3, ns' ++ [y], m' / 128, rfl, by go_num, by omega, by omega, by show _ = _; rw [List.length_append, HL.out]; rfl, HF, HQ⟩
      case measure => simp [intOf]; omega
end Go.Proofs.Ytlkcelmamenhpaa
