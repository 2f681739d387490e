/- What the code's choices gives: an iterator over the allowed choices. -/
import Derived.Test.YtpnepooobmbfbaaCrAllR
import Derived.Test.YtpnepooobmbfbaaInRound
namespace Go.Proofs.Ytpnepooobmbfbaa.dsk
set_option maxRecDepth 100000
open Go.ChangeShapes Go.WideShapes Go.ChangeAt Go.RowKit
open Go.Proofs.Ytpnepooobmbfbaa.rows
open Go.Proofs.Ytpnepooobmbfbaa.sec
open Go.Proofs.Ytpnepooobmbfbaa.cho (IntsIn allowed_any rallowed_any fate_of rfate_any count_any rcount_any nth_any rnth_any)
open Go.Proofs.Ytpnepooobmbfbaa.choMath
set_option linter.unusedVariables false
set_option linter.unusedSimpArgs false
attribute [local go_sem] Oper.semAt_some

theorem abides_below {β : Type} {B : Nat} {J : β → World → Prop} (h : AbidesFrom B J) {s : β} {W W' : World} (hs : J s W) (hb : Below W.heap.size W W') : J s W' :=
  h s W W' none hs ⟨hb.os, hb.tape, hb.output, hb.size, fun k hk _ => hb.block k hk⟩ (fun r e => by cases e)
/-- what the closure of choices has captured -/
structure ChoAt (S : Nat → Prop) (w : World) (bn bt be : Nat) (p : Option Addr) (m c : Nat) (t : Bool) (ws : List Wr) : Prop where
  n : Go.Boxed w bn 3 (.int .i64 (m : Int))
  t : Go.Boxed w bt 4 (.bool t)
  e : Go.Boxed w be 36 (.slice p m c)
  nS : S bn
  tS : S bt
  eS : S be
  rd : Rd w 1 (.slice p m c) m (i64s (eps ws))
  rS : InS S (.slice p m c)
theorem ChoAt.kept {S : Nat → Prop} {w w' : World} {bn bt be : Nat} {p : Option Addr} {m c : Nat} {t : Bool} {ws : List Wr} (h : ChoAt S w bn bt be p m c t ws) (k : Keeps S w w') : ChoAt S w' bn bt be p m c t ws :=
  ⟨(k.2 _ h.n.lt h.nS).trans h.n, (k.2 _ h.t.lt h.tS).trans h.t, (k.2 _ h.e.lt h.eS).trans h.e, h.nS, h.tS, h.eS, Go.Proofs.Ytpnepooobmbfbaa.dsk.Rd.kept h.rd h.rS k, h.rS⟩
set_option maxRecDepth 100000 in
set_option maxHeartbeats 2000000 in
theorem citer (n : Nat) (hn : 5 ≤ n) (S : Nat → Prop) (l bn bt be : Nat) (p : Option Addr) (m c : Nat) (t : Bool) (ws : List Wr) (hml : ws.length = m) (hm : m ≤ 8) (J Jx : List Nat → World → Prop)
    (W : World) (hA : ChoAt S W bn bt be p m c t ws) (hJ : AbidesFrom W.heap.size J)
    (hY : ∀ pre x W, J pre W → pre.length < 7000 → YieldAt Fence.wide (n - 1) Try.prog l #[.int .u64 (x : Nat)] W fun e W' =>
      (e = .returned (.bool true) ∧ J (pre ++ [x]) W' ∧ Keeps S W W') ∨ (e = .returned (.bool false) ∧ Jx (pre ++ [x]) W'))
    (h0 : J [] W) :
    CallsIn Fence.wide n Try.prog 72 #[.func (.yield l) #[] #[], .pointer (some ⟨bn, 0, none⟩), .pointer (some ⟨bt, 0, none⟩), .pointer (some ⟨be, 0, none⟩)] W fun e W' => (∃ v, e = .returned v) ∧
      ((∃ ys, ys = accs ws t (cnt (m : Int) t) ∧ J ys W') ∨ (∃ pre, pre <+: accs ws t (cnt (m : Int) t) ∧ Jx pre W')) := by
  have hn1 : 1 ≤ n := by omega
  have HA := Lib.hid hA
  have HJ := Lib.hid hJ
  have HY := Lib.hid hY
  have HJ0 := Lib.hid h0
  have HML := Lib.hid hml
  obtain ⟨N, hN⟩ : ∃ N, cnt (m : Int) t = N := ⟨_, rfl⟩
  have hN6 : N ≤ 6561 := hN ▸ cnt_small (by omega) t
  have hN7 : (N : Int) ≤ 6561 := by omega
  have HCN := Lib.hid fun w' => count_any (m : Int) t w'
  rw [hN] at HCN ⊢
  have cn := hA.n.cell
  have ct := hA.t.cell
  clear hA hJ hY h0 hml hN
  refine callsIn_of_wp Try.func72 rfl trivial ?_ rfl
  simp only [Try.ntmps72, List.size_toArray, List.length_cons, List.length_nil, Nat.reduceAdd, Nat.reduceSub, Array.replicate_succ, Array.replicate_zero, List.push_toArray, List.append_toArray, List.nil_append, List.cons_append]
  gi_wp2_with (refine ⟨trivial, ?_⟩; gi_at_call 32; refine (callsIn_wide.2 (HCN.out _)).mono ?_; rintro e w2 ⟨rfl, rfl⟩)
  clear cn ct
  gi_loopw [10] (fun kv wr => ∃ k : Nat, k ≤ N ∧ kv = .int .u64 (k : Int) ∧ Hid (J (accs ws t k) wr) ∧ Hid (Keeps S W wr))
    (fun kv _ => N - (intOf kv).toNat)
  case atStart => exact ⟨0, Nat.zero_le _, rfl, HJ0, Lib.hid (Keeps.refl _ _)⟩
  case round =>
    obtain ⟨k, hk, rfl, HJS, HK⟩ := hrel
    by_cases hlt : k < N
    · have hlt1 : (k : Int) < N := by omega
      obtain ⟨x, hx⟩ : ∃ x, nth k (m : Int) t = x := ⟨_, rfl⟩
      have HXL : Hid (x < 18446744073709551616) := Lib.hid (hx ▸ nth_lt _ _ _)
      have HNT := Lib.hid fun w' => nth_any k (m : Int) t w' (by omega)
      rw [hx] at HNT
      have HA2 := Lib.hid (HA.out.kept HK.out)
      have cn := HA2.out.n.cell
      have ct := HA2.out.t.cell
      obtain ⟨a, hal⟩ : ∃ a, alB x (eps ws) = a := ⟨_, rfl⟩
      have HALL := Lib.hid fun w' (hb : Below wr.heap.size wr w') => allowed_any x (eps ws) (.slice p m c) w' HXL.out (ints_of_rd (HA2.out.rd.later hb))
      rw [hal] at HALL
      have HACC : Hid (accs ws t (k + 1) = if a = true then accs ws t k ++ [x] else accs ws t k) := Lib.hid (by
        cases a with
        | true => rw [if_pos rfl, ← hx, ← HML.out]; rw [← hx, ← HML.out] at hal; exact accs_hit hal
        | false => rw [if_neg (by decide)]; rw [← hx, ← HML.out] at hal; exact accs_miss hal)
      have HLEN : Hid ((accs ws t k).length < 7000) := Lib.hid (by have := accs_len ws t k; omega)
      clear hx hal
      cases a with
      | false =>
        have HACC2 : Hid (accs ws t (k + 1) = accs ws t k) := Lib.hid (by rw [HACC.out]; rfl)
        gi_wp2_with (first | (refine ⟨trivial, ?_⟩; gi_at_call 31; refine (callsIn_wide.2 (HNT.out _)).mono ?_; rintro e w2 ⟨rfl, hb2⟩; have ce := (HA2.out.kept (Keeps.of_below hb2)).e.cell) | (refine ⟨trivial, ?_⟩; gi_at_call 48; refine (callsIn_wide.2 (HALL.out w2 hb2)).mono ?_; rintro e w3 ⟨rfl, rfl⟩))
        all_goals
          refine ⟨fun _ h => (by cases h), ?_⟩
          gi_wp2
          go_roundw
          case rel => exact ⟨k + 1, by omega, by go_num, Lib.hid (by rw [HACC2.out]; exact abides_below HJ.out HJS.out hb2), Lib.hid (HK.out.trans (Keeps.of_below hb2))⟩
          case measure => simp [intOf]; omega
      | true =>
        have HACC2 : Hid (accs ws t (k + 1) = accs ws t k ++ [x]) := Lib.hid (by rw [HACC.out]; rfl)
        gi_wp2_with (first | (refine ⟨trivial, ?_⟩; gi_at_call 31; refine (callsIn_wide.2 (HNT.out _)).mono ?_; rintro e w2 ⟨rfl, hb2⟩; have ce := (HA2.out.kept (Keeps.of_below hb2)).e.cell; obtain ⟨fn, tmps, assign, body, hy, hR⟩ := HY.out _ x w2 (abides_below HJ.out HJS.out hb2) HLEN.out) | (refine ⟨trivial, ?_⟩; gi_at_call 48; refine (callsIn_wide.2 (HALL.out w2 hb2)).mono ?_; rintro e w3 ⟨rfl, rfl⟩))
        have HP : Hid (accs ws t k ++ [x] <+: accs ws t N) := Lib.hid (by rw [← HACC2.out]; exact accs_pre ws t (by omega))
        refine hR.mono ?_
        rintro e W3 (⟨rfl, hJ3, hk3⟩ | ⟨rfl, hJx3⟩)
        · have HJ3 := Lib.hid hJ3
          clear hy hR hJ3
          gi_wp2
          go_roundw
          case rel => exact ⟨k + 1, by omega, by go_num, Lib.hid (by rw [HACC2.out]; exact HJ3.out), Lib.hid ((HK.out.trans (Keeps.of_below hb2)).trans hk3)⟩
          case measure => simp [intOf]; omega
        · have HJX3 := Lib.hid hJx3
          clear hy hR hJx3
          gi_wp2
          refine bodyPost_ret (results_none rfl _ _ _) rfl ?_
          exact ⟨⟨_, rfl⟩, .inr ⟨_, HP.out, HJX3.out⟩⟩
    · obtain rfl : k = N := by omega
      gi_wp2
      go_end0
      exact ⟨⟨_, rfl⟩, .inl ⟨_, rfl, HJS.out⟩⟩
/-- choices hands back a value that yields the allowed choices -/
theorem cstops (n : Nat) (hn : 5 ≤ n) (S : Nat → Prop) (bn bt be : Nat) (p : Option Addr) (m c : Nat) (t : Bool) (ws : List Wr) (hml : ws.length = m) (hm : m ≤ 8) (w : World) (hA : ChoAt S w bn bt be p m c t ws) :
    SeqStopsK Fence.wide n Try.prog 72 #[.pointer (some ⟨bn, 0, none⟩), .pointer (some ⟨bt, 0, none⟩), .pointer (some ⟨be, 0, none⟩)] (fun x : Nat => #[Value.int .u64 (x : Int)]) (Keeps S)
      (fun ys => ys = accs ws t (cnt (m : Int) t)) (fun pre => pre <+: accs ws t (cnt (m : Int) t)) 7000 w := fun l J Jx W hW hJ hJx hY h0 =>
  citer n hn S l bn bt be p m c t ws hml hm J Jx W (hA.kept (Keeps.of_below hW)) hJ hY h0
set_option maxRecDepth 100000 in
theorem cchoices (p : Option Addr) (m c : Nat) (t : Bool) (w : World) :
    Calls Try.prog 50 #[.slice p m c, .bool t] w fun e w' => e = .returned (.func (.func 72) #[] #[.pointer (some ⟨w.heap.size + 1 + 1, 0, none⟩), .pointer (some ⟨w.heap.size + 1, 0, none⟩), .pointer (some ⟨w.heap.size, 0, none⟩)]) ∧
      w' = ((w.alloc (.cells #[.slice p m c] 36)).alloc (.cells #[.bool t] 4)).alloc (.cells #[.int .i64 (m : Int)] 3) := by
  go_enter Try.func50, Try.ntmps50
  go_wp2
  go_ret
  exact ⟨rfl, rfl⟩
end Go.Proofs.Ytpnepooobmbfbaa.dsk
