/- What LookReads wants, part 25. -/
import Derived.Test.YtofnciffdhjacaaGreatDoorLookReadsP
import Derived.Test.YtofnciffdhjacaaGreatDoorLookReadsX
import Derived.Test.YtofnciffdhjacaaGreatDoorShelf
/- What the code's functions on paths give. -/
namespace Go.Proofs.YtofnciffdhjacaaGreatDoor.pa
set_option maxRecDepth 100000
open Go.ChangeShapes Go.WideShapes Go.ChangeAt Go.RowKit
open Go.Proofs.YtofnciffdhjacaaGreatDoor.rows
open Go.Proofs.YtofnciffdhjacaaGreatDoor.ly
open Go.Proofs.YtofnciffdhjacaaGreatDoor.dsk (cell_row frozen_row row_later setCell_heap)
set_option linter.unusedVariables false
set_option linter.unusedSimpArgs false

theorem set_same {cs : Array Value} {i : Nat} {v : Value} (h : cs[i]? = some v) : cs.setIfInBounds i v = cs := by
  apply Array.ext_getElem?
  intro j
  rw [Array.getElem?_setIfInBounds]
  by_cases e : i = j
  · subst e
    rw [if_pos rfl, h, if_pos (Array.getElem?_eq_some_iff.1 h).1]
  · rw [if_neg e]
theorem clone_any (s : ByteArray) (hs : s.size ≤ 281474976710656) (w : World) : Calls Tryz.prog 53 #[.string s] w fun e w' => e = .returned (.string s) ∧ Below w.heap.size w w' := by
  have HC := Lib.hid (Tryz.stringslite_Clone s w hs)
  clear hs
  go_enter Tryz.func53, Tryz.ntmps53
  go_wp2_with (go_at_call 66; refine HC.out.mono ?_; rintro e w' ⟨rfl, hb⟩)
  go_ret
  exact ⟨rfl, hb⟩
/-- a text behind its first slash -/
theorem prefix_yes {s : ByteArray} (h : Lib.hasPrefix s.data.toList [47] = true) : bys s = 47 :: bys ⟨(Lib.trimPrefix s.data.toList [47]).toArray⟩ := by
  rw [Lib.trimPrefix, if_pos h]
  unfold Lib.hasPrefix at h
  unfold bys
  cases hl : s.data.toList with
  | nil => rw [hl] at h; simp at h
  | cons b l =>
    rw [hl] at h
    have hb : 47 = b := by simpa using h
    subst hb
    rfl
theorem prefix_no {s : ByteArray} (h : Lib.hasPrefix s.data.toList [47] = false) : splitL (bys s) = none := by
  unfold Lib.hasPrefix at h
  have hp : parse (bys s) = none ∨ bys s = [] := by
    unfold bys
    cases hl : s.data.toList with
    | nil => exact Or.inr rfl
    | cons b l =>
      rw [hl] at h
      refine Or.inl (parse_bad _ fun (hb : (b.toNat : Int) = 47) => ?_)
      have : b = 47 := UInt8.toNat_inj.1 (by
        have h2 : b.toNat = 47 := by omega
        rw [h2]; rfl)
      subst this
      simp at h
  have hne : bys s ≠ [47] := fun e => by
    have h2 : s.data.toList = [47] := by rw [← ByteArray.toList_eq]; exact (slash1 s).2 e
    rw [h2] at h
    simp at h
  rcases hp with hp | hp
  · exact splitL_none hne hp
  · rw [hp, splitL_some (by simp) parse_nil]; rfl

set_option maxRecDepth 100000 in
set_option maxHeartbeats 3200000 in
theorem split_is : SplitMx 32 := by
  intro s w hmx hs
  have hsi : (s.size : Int) ≤ 100000 := by omega
  by_cases h47 : s.toList = [47]
  · have e1 : bys s = [47] := (slash1 s).1 h47
    have E1 : Hid (nms (bys s) = [] ∧ errS (bys s) = 0) := Lib.hid (by rw [e1, nms, errS, splitL_root]; exact ⟨rfl, rfl⟩)
    clear e1
    go_enter Tryz.func32, Tryz.ntmps32
    go_wp2_with fail
    go_ret2
    refine ⟨none, 0, 0, by rw [E1.out.2]; rfl, by rw [E1.out.1]; rfl, by rw [E1.out.1]; exact rd_nil _ 1, Below.refl _ _⟩
  · have g47 : (s.toList == [47]) = false := by simpa using h47
    have hne : bys s ≠ [47] := fun h => h47 ((slash1 s).2 h)
    have HCP := Lib.hid fun w => Tryz.strings_CutPrefix s { data := #[47] } w
    rw [show ({ data := #[47] } : ByteArray).data.toList = [47] from rfl] at HCP
    cases hp : Lib.hasPrefix s.data.toList [47] with
    | false =>
      have HZ := Lib.hid (prefix_no hp)
      rw [hp] at HCP
      clear h47 hne hp
      go_enter Tryz.func32, Tryz.ntmps32
      go_wp2_with (go_at_call 50; refine (HCP.out _).mono ?_; rintro e w1 ⟨rfl, hw1⟩; obtain rfl : w = w1 := hw1.symm)
      go_ret2
      exact ⟨none, 0, 0, by rw [errS, HZ.out]; rfl, by rw [nms, HZ.out]; rfl, by rw [nms, HZ.out]; exact rd_nil _ 1, Below.refl _ _⟩
    | true =>
      have hbr := prefix_yes hp
      rw [hp] at HCP
      generalize (⟨(Lib.trimPrefix s.data.toList [47]).toArray⟩ : ByteArray) = r at HCP hbr
      have hrs : s.size = r.size + 1 := by rw [← bys_len s, hbr, List.length_cons, bys_len]
      obtain ⟨m, hm⟩ := hmx
      have HSP := Lib.hid (Tryz.strings_SplitN r slashB 5 m w (by omega) hm (by decide) (by decide) (by decide))
      have hpc := pieces r
      obtain ⟨L, hL⟩ : ∃ L, Lib.splitB slashB 0 (min 5 (r.size + 1) - 1) r = L := ⟨_, rfl⟩
      have hln : L.length ≤ min 5 (r.size + 1) := by
        have := Lib.splitB_length_le slashB 0 (min 5 (r.size + 1) - 1) r
        rw [hL] at this; omega
      rw [hL] at HSP hpc
      clear hL
      have hszs : ∀ x ∈ L, x.size ≤ 100000 := fun x hx => by
        have := cutK_size 4 (bys r) (bys x) (by rw [← hpc]; exact List.mem_map_of_mem hx)
        rw [bys_len, bys_len] at this
        omega
      obtain ⟨N, hN⟩ : ∃ N, min 5 (r.size + 1) = N := ⟨_, rfl⟩
      have hN5 : N ≤ 5 := by omega
      rw [hN] at HSP hln
      clear hN
      have hcl : (cutK 4 (bys r)).length = L.length := by rw [← hpc, List.length_map]
      have hl1 : 1 ≤ L.length := by rw [← hcl]; exact cutK_pos _ _
      by_cases h4 : 4 < L.length
      · have HZ : Hid (splitL (bys s) = none) := Lib.hid (by
          cases hps : parse (bys s) with
          | none => exact splitL_none hne hps
          | some ns =>
            have h5 := cut_long 4 (bys r) ns (by rw [hcl]; omega) (by rw [← hbr]; exact hps)
            rw [splitL_some hne hps, if_neg (by omega)])
        have h4i : (4 : Int) < (L.length : Int) := by omega
        generalize L.length = n at *
        generalize Lib.cellsOf L N = cs at *
        clear h47 hne hp hpc hszs hcl hbr
        go_enter Tryz.func32, Tryz.ntmps32
        go_wp2_with (first | (go_at_call 50; refine (HCP.out _).mono ?_; rintro e w1 ⟨rfl, hw1⟩; obtain rfl : w = w1 := hw1.symm) | (go_at_call 51; refine HSP.out.mono ?_; rintro e w1 ⟨rfl, hw⟩; have HW := Lib.hid hw; clear hw))
        go_ret2
        exact ⟨none, 0, 0, by rw [errS, HZ.out]; rfl, by rw [nms, HZ.out]; rfl, by rw [nms, HZ.out]; exact rd_nil _ 1, by rw [HW.out]; exact below_alloc (Below.refl _ _) _⟩
      · have h4i : (L.length : Int) ≤ 4 := by omega
        have hcp := cut_parse 4 (bys r) (by rw [hcl]; omega)
        rw [← hbr, ← hpc] at hcp
        have HNO : Hid (∀ i (h : i < L.length), isNm (bys L[i]) = false → splitL (bys s) = none) := Lib.hid (fun i h hf => splitL_none hne (by
          rw [hcp, if_neg]
          intro ha
          have := List.all_eq_true.1 ha (bys L[i]) (List.mem_map_of_mem (List.getElem_mem h))
          rw [hf] at this
          cases this))
        have HYE : Hid ((∀ i (h : i < L.length), isNm (bys L[i]) = true) → splitL (bys s) = some (L.map bys)) := Lib.hid (fun ha => by
          rw [if_pos (List.all_eq_true.2 (fun y hy => by
            obtain ⟨x, hx, rfl⟩ := List.mem_map.1 hy
            obtain ⟨i, hi, rfl⟩ := List.mem_iff_getElem.1 hx
            exact ha i hi))] at hcp
          rw [splitL_some hne hcp, if_pos ⟨by rw [List.length_map]; exact hl1, by rw [List.length_map]; omega⟩])
        have HCE : Hid (∀ i (h : i < L.length), (Lib.cellsOf L N)[i]? = some (.string L[i])) := Lib.hid (fun i h => by
          unfold Lib.cellsOf
          rw [List.getElem?_toArray, List.getElem?_append_left (by rw [List.length_map]; exact h)]
          simp [h])
        have HSZ : Hid (∀ i (h : i < L.length), L[i].size ≤ 100000) := Lib.hid (fun i h => hszs _ (List.getElem_mem h))
        clear h47 hne hp hpc hszs hcl hbr hcp h4
        obtain ⟨n, hn⟩ : ∃ n, n = L.length := ⟨_, rfl⟩
        have HN := Lib.hid hn
        rw [← hn] at h4i hl1 hln HSP
        have h1i : (1 : Int) ≤ n := by omega
        clear hn
        generalize hcs : Lib.cellsOf L N = cs at *
        clear hcs
        go_enter Tryz.func32, Tryz.ntmps32
        go_wp2_with (first | (go_at_call 50; refine (HCP.out _).mono ?_; rintro e w1 ⟨rfl, hw1⟩; obtain rfl : w = w1 := hw1.symm) | (go_at_call 51; refine HSP.out.mono ?_; rintro e w1 ⟨rfl, hw⟩; have HR1 : Hid (w1.heap[w.heap.size]? = some (.cells cs 9 (0, 0))) := Lib.hid (by rw [hw]; exact heap_alloc_new _ _); have HB1 : Hid (Below w.heap.size w w1) := Lib.hid (by rw [hw]; exact below_alloc (Below.refl _ _) _); clear hw))
        go_loopw [7, 8, 25] (fun _ _ iv wr => ∃ i : Nat, i ≤ n ∧ iv = .int .i64 (i : Int) ∧ Hid (∀ k (h : k < L.length), k < i → isNm (bys L[k]) = true) ∧ Hid (wr.heap[w.heap.size]? = some (.cells cs 9 (0, 0))) ∧ Hid (Below w.heap.size w wr)) (fun _ _ iv _ => n - (intOf iv).toNat)
        case atStart => exact ⟨0, by omega, rfl, Lib.hid (fun k h hk => by omega), HR1, HB1⟩
        case round =>
          obtain ⟨i, hi, rfl, HA, HR, HB⟩ := hrel
          by_cases hlt : i < n
          · have hlti : (i : Int) < n := by omega
            have hlL : i < L.length := by rw [← HN.out]; exact hlt
            have k1 := cell_row HR.out i _ (HCE.out i hlL)
            have k2 := frozen_row HR.out i
            obtain ⟨x, hx⟩ : ∃ x, x = L[i] := ⟨_, rfl⟩
            have hxs : x.size ≤ 100000 := by rw [hx]; exact HSZ.out i hlL
            have HCX : Hid (cs[i]? = some (.string x)) := Lib.hid (by rw [hx]; exact HCE.out i hlL)
            have HNX : Hid (isNm (bys x) = false → splitL (bys s) = none) := Lib.hid (by rw [hx]; exact HNO.out i hlL)
            have HAX : Hid (isNm (bys x) = true → ∀ k (h : k < L.length), k < i + 1 → isNm (bys L[k]) = true) := Lib.hid (fun hh k h hk => by
              by_cases e : k = i
              · subst e; rw [← hx]; exact hh
              · exact HA.out k h (by omega))
            rw [← hx] at k1
            clear hx
            have HNM := Lib.hid fun w => name_of x (isNm (bys x)) (by rw [nameB_bys]) (by unfold maxLen; omega) w
            have HCL := Lib.hid fun w => clone_any x (by omega) w
            cases hnm : isNm (bys x) with
            | false =>
              have HZ := Lib.hid (HNX.out hnm)
              rw [hnm] at HNM
              clear hnm
              go_wp2_with (go_at_call 52; refine (HNM.out _).mono ?_; rintro e w2 ⟨rfl, rfl⟩)
              go_ret2
              exact ⟨none, 0, 0, by rw [errS, HZ.out]; rfl, by rw [nms, HZ.out]; rfl, by rw [nms, HZ.out]; exact rd_nil _ 1, HB.out⟩
            | true =>
              have HA2 := Lib.hid (HAX.out hnm)
              rw [hnm] at HNM
              clear hnm
              go_wp2_with (first | (go_at_call 52; refine (HNM.out _).mono ?_; rintro e w2 ⟨rfl, rfl⟩) | (go_at_call 53; refine (HCL.out _).mono ?_; rintro e w2 ⟨rfl, hb⟩; have HR2 := Lib.hid (row_later HR.out hb (Array.getElem?_eq_some_iff.1 HR.out).1); have HB2 := Lib.hid (below_trans HB.out hb); have k3 := cell_row HR2.out i _ HCX.out; have k4 := frozen_row HR2.out i; clear hb))
              go_roundw
              case rel => exact ⟨i + 1, by omega, by go_num, HA2, Lib.hid (by rw [setCell_heap HR2.out, set_same HCX.out]), Lib.hid (HB2.out.setCell (p := ⟨w.heap.size, i, none⟩) (Nat.le_refl _) _)⟩
              case measure => simp [intOf]; omega
          · obtain rfl : i = n := by omega
            have HZ : Hid (splitL (bys s) = some (L.map bys)) := Lib.hid (HYE.out fun k h => HA.out k h (by rw [HN.out]; exact h))
            go_wp2_with fail
            go_ret2
            refine ⟨some ⟨w.heap.size, 0, none⟩, i, N, by rw [errS, HZ.out]; rfl, by rw [nms, HZ.out, Option.getD_some, List.length_map]; exact HN.out, ?_, HB.out⟩
            rw [nms, HZ.out, Option.getD_some]
            refine Or.inr ⟨_, 0, N, rfl, by omega, by omega, by unfold maxLen; omega, (Array.getElem?_eq_some_iff.1 HR.out).1, by rw [strC_len, List.length_map, Nat.mul_one, HN.out], ?_⟩
            intro k v hk
            rw [strC, List.map_map, List.getElem?_map] at hk
            obtain ⟨x, hx, rfl⟩ := Option.map_eq_some_iff.1 hk
            obtain ⟨hkl, hx2⟩ := List.getElem?_eq_some_iff.1 hx
            rw [Nat.zero_add]
            refine cell_row HR.out k _ ?_
            rw [HCE.out k hkl, hx2]
            exact congrArg some (congrArg Value.string (strOf_bys x).symm)
end Go.Proofs.YtofnciffdhjacaaGreatDoor.pa
