/- What the allowed choices are, and what the reference's All gives. -/
import Derived.Test.YtpnepooobmbfbaaCrImgR
namespace Go.Proofs.Ytpnepooobmbfbaa.dsk
set_option maxRecDepth 100000
open Go.ChangeShapes Go.WideShapes Go.ChangeAt Go.RowKit
open Go.Proofs.Ytpnepooobmbfbaa.rows
open Go.Proofs.Ytpnepooobmbfbaa.sec
open Go.Proofs.Ytpnepooobmbfbaa.cho (IntsIn allowed_any rallowed_any fate_of rfate_any count_any rcount_any nth_any rnth_any)
open Go.Proofs.Ytpnepooobmbfbaa.choMath
set_option linter.unusedVariables false
set_option linter.unusedSimpArgs false

theorem elem_u64s : Elem 47 40 1 8 (.int .u64 0) := ⟨Try.underlying47, by kernel_rfl, by decide, by decide, by decide⟩
def u64s (l : List Nat) : List Value := l.map fun c : Nat => Value.int .u64 (c : Int)
def accs (ws : List Wr) (t : Bool) (k : Nat) : List Nat := ((List.range k).map fun i => nth i (ws.length : Int) t).filter fun c => alB c (eps ws)
theorem accs_hit {ws : List Wr} {t : Bool} {k : Nat} (h : alB (nth k (ws.length : Int) t) (eps ws) = true) : accs ws t (k + 1) = accs ws t k ++ [nth k (ws.length : Int) t] := by
  simp [accs, List.range_succ, h]
theorem accs_miss {ws : List Wr} {t : Bool} {k : Nat} (h : alB (nth k (ws.length : Int) t) (eps ws) = false) : accs ws t (k + 1) = accs ws t k := by
  simp [accs, List.range_succ, h]
theorem accs_len (ws : List Wr) (t : Bool) (k : Nat) : (accs ws t k).length ≤ k := by
  have := List.length_filter_le (fun c => alB c (eps ws)) ((List.range k).map fun i => nth i (ws.length : Int) t)
  simpa [accs] using this
theorem accs_pre (ws : List Wr) (t : Bool) {k j : Nat} (h : k ≤ j) : accs ws t k <+: accs ws t j := by
  induction j with
  | zero => obtain rfl : k = 0 := by omega
            exact List.prefix_refl _
  | succ j ih =>
    rcases Nat.eq_or_lt_of_le h with rfl | h
    · exact List.prefix_refl _
    · refine (ih (by omega)).trans ?_
      cases hq : alB (nth j (ws.length : Int) t) (eps ws)
      · rw [accs_miss hq]; exact List.prefix_refl _
      · rw [accs_hit hq]; exact List.prefix_append _ _
def cutAt (most : Int) (l : List Nat) : List Nat × Bool := if (l.length : Int) ≤ most ∨ l = [] then (l, true) else (l.take most.toNat, false)
theorem cut_all {most : Int} {l : List Nat} (h : (l.length : Int) ≤ most ∨ l = []) : cutAt most l = (l, true) := if_pos h
theorem cut_stop {most : Int} {l a : List Nat} {c : Nat} (h : (a.length : Int) ≤ most ∨ a = []) (hm : most ≤ a.length) (hp : a ++ [c] <+: l) : cutAt most l = (a, false) := by
  have hl := hp.length_le
  rw [List.length_append, List.length_singleton] at hl
  have hne : l ≠ [] := by intro e; rw [e] at hl; simp at hl
  rw [cutAt, if_neg (by simp [hne]; omega)]
  congr 1
  obtain ⟨r, rfl⟩ := hp
  have : most.toNat = a.length := by
    rcases h with h | h
    · omega
    · subst h; simp at hm ⊢; omega
  rw [this, List.append_assoc, List.take_left]
def allR (ws : List Wr) (t : Bool) (most : Int) : List Nat × Bool := if 8 < ws.length then ([], false) else cutAt most (accs ws t (cnt (ws.length : Int) t))
theorem cnt_small {m : Nat} (h : m ≤ 8) (t : Bool) : cnt (m : Int) t ≤ 6561 := by
  rw [cnt, if_pos (by omega), Int.toNat_natCast]
  have h1 : base t ≤ 3 := by cases t <;> decide
  have h2 : base t ^ m ≤ 3 ^ m := Nat.pow_le_pow_left h1 m
  have h3 : 3 ^ m ≤ 3 ^ 8 := Nat.pow_le_pow_right (by decide) h
  have : (3 : Nat) ^ 8 = 6561 := by decide
  omega
theorem ofl_pref_lt (g : Nat → Nat) (j : Nat) (hg : ∀ i, g i < 4) : ofl (pref g j) < 18446744073709551616 := ofl32 _ (pref_lt g j hg) (pref_len g j)
theorem nth_lt (k : Nat) (n : Int) (t : Bool) : nth k n t < 18446744073709551616 := by
  rw [nth]
  split
  · exact ofl_pref_lt _ _ fun i => (ng_lt k t i).2
  · decide
/-- what All answers -/
def AllDone (ws : List Wr) (t : Bool) (most : Int) (w : World) (e : Ending) (w' : World) : Prop :=
  Below w.heap.size w w' ∧ ∃ p c, e = .returned (.tuple #[.slice p (allR ws t most).1.length c, .bool (allR ws t most).2]) ∧ Own w' w.heap.size 40 1 (.slice p (allR ws t most).1.length c) (allR ws t most).1.length (u64s (allR ws t most).1)
def allIn (w : World) (pw : Option Addr) (m cw : Nat) (ws : List Wr) : Prop := Rd w 36 (.slice pw m cw) m (wrsC ws) ∧ (∀ x ∈ ws, Sec x.s) ∧ m ≤ 1000

set_option maxRecDepth 100000 in
set_option maxHeartbeats 3200000 in
theorem rall (ps : Option Addr) (n cs : Nat) (pw : Option Addr) (m cw : Nat) (ws : List Wr) (t : Bool) (most : Int) (w : World) (hi : allIn w pw m cw ws) :
    Calls Try.prog 20 #[stV ps n cs pw m cw, .bool t, .int .i64 most] w (AllDone ws t most w) := by
  obtain ⟨hw, hws, hm⟩ := hi
  have hml : ws.length = m := Rd.count Wr.c hw (fun x hx => Wr.c_len (hws x hx)) (by decide)
  have HML := Lib.hid hml
  have hm1 : (m : Int) ≤ 1000 := by omega
  have HAL := Lib.hid fun c (hc : c < 18446744073709551616) w' (hb : Below w.heap.size w w') => rallowed c ps n cs pw m cw ws w' hc hws (hw.later hb) hm
  have HB1 : Hid (Below w.heap.size w (w.alloc (.cells #[.slice ps n cs, .slice pw m cw] 31))) := Lib.hid (below_alloc (Below.refl _ _) _)
  obtain ⟨w1, hw1⟩ : ∃ w1, w.alloc (.cells #[.slice ps n cs, .slice pw m cw] 31) = w1 := ⟨_, rfl⟩
  have hbx : w1.heap[w.heap.size]? = some (.cells #[.slice ps n cs, .slice pw m cw] 31 (0, 0)) := by rw [← hw1]; exact heap_alloc_new _ _
  have hz1 : w1.heap.size = w.heap.size + 1 := by rw [← hw1, size_alloc]
  have HBX := Lib.hid hbx
  have HZ1 := Lib.hid hz1
  have HROW : Hid (∀ w2, Below w1.heap.size w1 w2 → w2.heap[w.heap.size]? = some (.cells #[.slice ps n cs, .slice pw m cw] 31 (0, 0)) ∧ Below w.heap.size w w2) := Lib.hid (fun w2 hb2 =>
    ⟨row_later HBX.out hb2 (by omega), (hw1 ▸ HB1.out : Below w.heap.size w w1).trans (hb2.mono (by omega))⟩)
  have HBW1 : Hid (Below w.heap.size w w1) := Lib.hid (hw1 ▸ HB1.out)
  have cb0 := cell_row hbx 0 _ rfl
  have cb1 := cell_row hbx 1 _ rfl
  clear hbx hz1 HB1 hw hws
  unfold stV at *
  by_cases h8 : 8 < m
  · have h81 : (8 : Int) < m := by omega
    have HR : Hid (allR ws t most = ([], false)) := Lib.hid (by rw [allR, if_pos (by omega)])
    clear hml
    go_enter Try.func20, Try.ntmps20
    go_wp2
    go_ret2
    refine ⟨HBW1.out, none, 0, by rw [HR.out]; rfl, ?_⟩
    rw [HR.out]
    exact own_nil _ _ _ _
  · have h81 : (m : Int) ≤ 8 := by omega
    obtain ⟨N, hN⟩ : ∃ N, cnt (m : Int) t = N := ⟨_, rfl⟩
    have hN6 : N ≤ 6561 := hN ▸ cnt_small (by omega) t
    have hN7 : (N : Int) ≤ 6561 := by omega
    have HN := Lib.hid hN
    have HR : Hid (allR ws t most = cutAt most (accs ws t N)) := Lib.hid (by rw [allR, if_neg (by omega), hml, hN])
    have HCN := Lib.hid fun w' => rcount_any (m : Int) t w'
    rw [hN] at HCN
    clear hN hml
    go_enter Try.func20, Try.ntmps20
    go_wp2
    clear hw1 cb0 cb1
    go_loopw [9, 10] (fun ov kv wr => ∃ (k : Nat) (q : Nat) (p : Option Addr) (cc : Nat), k ≤ N ∧ kv = .int .u64 (k : Int) ∧ ov = .slice p q cc ∧ Hid (q = (accs ws t k).length) ∧ Hid (Own wr w1.heap.size 40 1 (.slice p q cc) q (u64s (accs ws t k))) ∧ Hid (((accs ws t k).length : Int) ≤ most ∨ accs ws t k = []) ∧ Below w1.heap.size w1 wr) (fun _ kv _ => N - (intOf kv).toNat)
    case atStart => exact ⟨0, 0, none, 0, by omega, rfl, rfl, Lib.hid rfl, Lib.hid (own_nil _ _ _ _), Lib.hid (Or.inr rfl), Below.refl _ _⟩
    case round =>
      obtain ⟨k, q, p, cc, hk, rfl, rfl, HQ, HO, HM, hbr⟩ := hrel
      have HRW := Lib.hid (HROW.out _ hbr)
      have hq6 : q ≤ 6561 := by have := HQ.out; have := accs_len ws t k; omega
      by_cases ha : k < N
      · have ha1 : (k : Int) < N := by omega
        obtain ⟨c, hc⟩ : ∃ c, nth k (m : Int) t = c := ⟨_, rfl⟩
        have HCL : Hid (c < 18446744073709551616) := Lib.hid (hc ▸ nth_lt _ _ _)
        have HNT := Lib.hid fun w' => rnth_any k (m : Int) t w' (by omega)
        rw [hc] at HNT
        obtain ⟨a, hal⟩ : ∃ a, alB c (eps ws) = a := ⟨_, rfl⟩
        have HALC := Lib.hid fun w' (hb : Below w.heap.size w w') => HAL.out c HCL.out w' hb
        rw [hal] at HALC
        have HACC : Hid (accs ws t (k + 1) = if a = true then accs ws t k ++ [c] else accs ws t k) := Lib.hid (by
          cases a with
          | true => rw [if_pos rfl, ← hc, ← HML.out]; rw [← hc, ← HML.out] at hal; exact accs_hit hal
          | false => rw [if_neg (by decide)]; rw [← hc, ← HML.out] at hal; exact accs_miss hal)
        clear hc hal
        cases a with
        | false =>
          have HACC2 : Hid (accs ws t (k + 1) = accs ws t k) := Lib.hid (by rw [HACC.out]; rfl)
          go_wp2_with (first | (go_at_call 51; refine (HCN.out _).mono ?_; rintro e w2 ⟨rfl, rfl⟩) | (go_at_call 52; refine (HNT.out _).mono ?_; rintro e w2 ⟨rfl, hb2⟩; have HO2 := Lib.hid (own_later HO.out hb2); have hb12 := hbr.trans (hb2.mono hbr.size); have HRW2 := Lib.hid (HROW.out _ hb12); have cd0 := cell_row HRW2.out.1 0 _ rfl; have cd1 := cell_row HRW2.out.1 1 _ rfl; clear hb2) | (go_at_call 18; refine (HALC.out _ HRW2.out.2).mono ?_; rintro e w3 ⟨rfl, hb3⟩; have HO3 := Lib.hid (own_later HO2.out hb3); have hb13 := hb12.trans (hb3.mono hb12.size); clear hb3))
          refine ⟨⟨k + 1, q, p, cc, by omega, by go_num, rfl, Lib.hid (by rw [HACC2.out]; exact HQ.out), Lib.hid (by rw [HACC2.out]; exact HO3.out), Lib.hid (by rw [HACC2.out]; exact HM.out), hb13⟩, by simp [intOf]; omega⟩
        | true =>
          have HACC2 : Hid (accs ws t (k + 1) = accs ws t k ++ [c]) := Lib.hid (by rw [HACC.out]; rfl)
          by_cases hst : most ≤ (q : Int)
          · have HCUT : Hid (allR ws t most = (accs ws t k, false)) := Lib.hid (by
              rw [HR.out]
              refine cut_stop (c := c) HM.out (by rw [← HQ.out]; exact hst) ?_
              rw [← HACC2.out]
              exact accs_pre ws t (by omega))
            go_wp2_with (first | (go_at_call 51; refine (HCN.out _).mono ?_; rintro e w2 ⟨rfl, rfl⟩) | (go_at_call 52; refine (HNT.out _).mono ?_; rintro e w2 ⟨rfl, hb2⟩; have HO2 := Lib.hid (own_later HO.out hb2); have hb12 := hbr.trans (hb2.mono hbr.size); have HRW2 := Lib.hid (HROW.out _ hb12); have cd0 := cell_row HRW2.out.1 0 _ rfl; have cd1 := cell_row HRW2.out.1 1 _ rfl; clear hb2) | (go_at_call 18; refine (HALC.out _ HRW2.out.2).mono ?_; rintro e w3 ⟨rfl, hb3⟩; have HO3 := Lib.hid (own_later HO2.out hb3); have hb13 := hb12.trans (hb3.mono hb12.size); clear hb3))
            go_ret2
            refine ⟨HBW1.out.trans (hb13.mono HBW1.out.size), p, cc, ?_, ?_⟩
            · rw [HCUT.out, HQ.out]; rfl
            · rw [HCUT.out]
              have := own_base HO3.out HBW1.out.size
              rwa [HQ.out] at this
          · have hst2 : (q : Int) < most := by omega
            have HAC3 : Hid (u64s (accs ws t (k + 1)) = u64s (accs ws t k) ++ [.int .u64 (c : Int)]) := Lib.hid (by rw [HACC2.out]; simp [u64s])
            go_wp2_with (first | (go_at_call 51; refine (HCN.out _).mono ?_; rintro e w2 ⟨rfl, rfl⟩) | (go_at_call 52; refine (HNT.out _).mono ?_; rintro e w2 ⟨rfl, hb2⟩; have HO2 := Lib.hid (own_later HO.out hb2); have hb12 := hbr.trans (hb2.mono hbr.size); have HRW2 := Lib.hid (HROW.out _ hb12); have cd0 := cell_row HRW2.out.1 0 _ rfl; have cd1 := cell_row HRW2.out.1 1 _ rfl; clear hb2) | (go_at_call 18; refine (HALC.out _ HRW2.out.2).mono ?_; rintro e w3 ⟨rfl, hb3⟩; have HO3 := Lib.hid (own_later HO2.out hb3); have hb13 := hb12.trans (hb3.mono hb12.size); clear hb3) | (refine build_one elem_u64s (by decide) rfl (.tmp 38) rfl [.int .u64 (c : Int)] rfl rfl ?_) | (at_builtin; refine ap_rd elem_u64s rfl (.tmp 37) (.tmp 39) rfl w1.heap.size _ q _ rfl (HO3.out.alloc _) _ 1 [.int .u64 (c : Int)] rfl (rd_laid _ _ _ _ rfl) (fun u hu => by rw [List.mem_singleton.1 hu]; rfl) (by omega) (by rw [size_alloc]; have := hb13.size; omega) ?_; intro pa ca wa ho hba; have HOA := Lib.hid ho; clear ho))
            refine ⟨⟨k + 1, q + 1, pa, ca, by omega, by go_num, rfl, Lib.hid (by rw [HACC2.out, List.length_append, ← HQ.out]; rfl), Lib.hid (by rw [HAC3.out]; exact HOA.out), Lib.hid (Or.inl (by rw [HACC2.out, List.length_append, ← HQ.out, List.length_singleton]; omega)), (hb13.alloc hb13.size _).trans hba⟩, by simp [intOf]; omega⟩
      · obtain rfl : N = k := by omega
        have HCUT : Hid (allR ws t most = (accs ws t N, true)) := Lib.hid (by rw [HR.out]; exact cut_all HM.out)
        go_wp2_with (go_at_call 51; refine (HCN.out _).mono ?_; rintro e w2 ⟨rfl, rfl⟩)
        go_ret2
        refine ⟨HRW.out.2, p, cc, ?_, ?_⟩
        · rw [HCUT.out, HQ.out]; rfl
        · rw [HCUT.out]
          have := own_base HO.out HBW1.out.size
          rwa [HQ.out] at this
end Go.Proofs.Ytpnepooobmbfbaa.dsk
