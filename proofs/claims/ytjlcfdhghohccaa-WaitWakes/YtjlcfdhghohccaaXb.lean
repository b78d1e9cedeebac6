/-
  taskmillref.SetLine.
-/
import Derived.Test.YtjlcfdhghohccaaXa
import Derived.Deep.RegionLaw
namespace Go.Proofs.Ytjlcfdhghohccaa
open Go.RowKit

@[irreducible] def cellOf (w : World) (g o : Nat) : Value := (w.cell? ⟨g, o, none⟩).getD undef
theorem cellOf_eq {w : World} {g o : Nat} {v : Value} (h : w.cell? ⟨g, o, none⟩ = some v) : cellOf w g o = v := by
  unfold cellOf
  rw [h]
  rfl
/-- What is out ahead of the round j. -/
def outL (x : Int) (zs : List Int) (ls : List Ln) (j : Nat) : List Ln := if j ≤ posL x ls then ls.take j else aheadL x ls ++ ((if zs = [] then [] else [(x, zs)]) ++ (behindL x ls).take (j - (posL x ls + if thereL x ls = true then 1 else 0)))
theorem outL_low {x : Int} {zs : List Int} {ls : List Ln} {j : Nat} (h : j < posL x ls) : outL x zs ls (j + 1) = outL x zs ls j ++ [lAt ls j] := by
  have := posL_le x ls
  unfold outL
  rw [if_pos (by omega), if_pos (by omega), take_next (by omega)]
theorem outL_here {x : Int} {zs : List Int} {ls : List Ln} (ht : thereL x ls = true) : outL x zs ls (posL x ls + 1) = outL x zs ls (posL x ls) ++ (if zs = [] then [] else [(x, zs)]) := by
  unfold outL
  rw [if_neg (by omega), if_pos (Nat.le_refl _), if_pos ht, Nat.sub_self, List.take_zero, List.append_nil]
  rfl
theorem behind_at {x : Int} {ls : List Ln} {i : Nat} : lAt (behindL x ls) i = lAt ls (posL x ls + (if thereL x ls = true then 1 else 0) + i) := lAt_drop
theorem behind_len {x : Int} {ls : List Ln} : (behindL x ls).length = ls.length - (posL x ls + if thereL x ls = true then 1 else 0) := List.length_drop ..
theorem outL_new {x : Int} {zs : List Int} {ls : List Ln} (ht : ¬ thereL x ls = true) (hj : posL x ls < ls.length) : outL x zs ls (posL x ls + 1) = (outL x zs ls (posL x ls) ++ (if zs = [] then [] else [(x, zs)])) ++ [lAt ls (posL x ls)] := by
  have hb := behind_len (x := x) (ls := ls)
  have ha := behind_at (x := x) (ls := ls) (i := 0)
  unfold outL
  rw [if_neg (by omega), if_pos (Nat.le_refl _)]
  rw [if_neg ht] at hb ha ⊢
  rw [show posL x ls + 1 - (posL x ls + 0) = 0 + 1 by omega, take_next (by omega), ha]
  simp [aheadL]
theorem outL_high {x : Int} {zs : List Int} {ls : List Ln} {j : Nat} (h : posL x ls < j) (hj : j < ls.length) : outL x zs ls (j + 1) = outL x zs ls j ++ [lAt ls j] := by
  have hb := behind_len (x := x) (ls := ls)
  have ha := behind_at (x := x) (ls := ls) (i := j - (posL x ls + if thereL x ls = true then 1 else 0))
  have hs : posL x ls + (if thereL x ls = true then 1 else 0) ≤ j := by split <;> omega
  unfold outL
  rw [if_neg (show ¬ j + 1 ≤ posL x ls by omega), if_neg (show ¬ j ≤ posL x ls by omega)]
  rw [show j + 1 - (posL x ls + if thereL x ls = true then 1 else 0) = (j - (posL x ls + if thereL x ls = true then 1 else 0)) + 1 by omega, take_next (by omega), ha, show posL x ls + (if thereL x ls = true then 1 else 0) + (j - (posL x ls + if thereL x ls = true then 1 else 0)) = j by omega]
  simp
theorem outL_end_high {x : Int} {zs : List Int} {ls : List Ln} (h : posL x ls < ls.length) : outL x zs ls ls.length = setL x zs ls := by
  have hb := behind_len (x := x) (ls := ls)
  unfold outL
  rw [if_neg (by omega), setL_eq, List.take_of_length_le (by omega)]
theorem outL_end_low {x : Int} {zs : List Int} {ls : List Ln} (h : posL x ls = ls.length) : outL x zs ls ls.length ++ (if zs = [] then [] else [(x, zs)]) = setL x zs ls := by
  have hb := behind_len (x := x) (ls := ls)
  have e : behindL x ls = [] := List.eq_nil_of_length_eq_zero (by omega)
  unfold outL
  rw [if_pos (by omega), setL_eq, e, List.append_nil]
  unfold aheadL
  rw [h]
theorem outL_len {x : Int} {zs : List Int} {ls : List Ln} {j : Nat} (hj : j ≤ ls.length) : (outL x zs ls j).length ≤ j + 1 := by
  have hp := posL_le x ls
  unfold outL
  split
  · rw [List.length_take]; omega
  · have ha : (aheadL x ls).length = posL x ls := by unfold aheadL; rw [List.length_take]; omega
    have hm : (if zs = [] then ([] : List Ln) else [(x, zs)]).length ≤ 1 := by split <;> simp
    rw [List.length_append, List.length_append, List.length_take, ha]
    omega

/-- The function inside, of lines. -/
theorem addRs_reads {w : World} {x : Int} {a : Option Addr} {m c : Nat} {zs : List Int} {rs : List Rl} {ls : List Ln} (h : Reads w rs ls) (hz : IsInts w (.slice a m c) zs) : Reads w (addRs x a m c rs false) (ls ++ (if zs = [] then [] else [(x, zs)])) := by
  have hl := hz.len
  unfold addRs
  by_cases hm : m = 0
  · rw [if_pos (Or.inr hm), if_pos (List.eq_nil_of_length_eq_zero (by omega)), List.append_nil]
    exact h
  · rw [if_neg (fun h2 => h2.elim (fun h3 => by cases h3) hm), if_neg (fun e => hm (by rw [← hl, e]; rfl))]
    exact h.append (Reads.one hz)

theorem SetSt.len {g : Nat} {x : Int} {tv : Value} {W0 W : World} {ao : Option Addr} {no co : Nat} {rs : List Rl} {b : Bool} (h : SetSt g x tv W0 W ao no co rs b) : rs.length = no := by
  obtain ⟨_, _, e⟩ := Rd.form (Rd.of_owns h.own)
  injection e with _ e2 _
  exact e2.symm
theorem four_new (w : World) (x : Int) (tv : Value) : SetSt w.heap.size x tv w ((((w.alloc (.cells #[.int .i64 x] 3)).alloc (.cells #[tv] 34)).alloc (.cells #[.slice none 0 0] 22)).alloc (.cells #[.bool false] 4)) none 0 0 [] false := by
  obtain ⟨b1, b2, b3, hb, hs⟩ := three_new w (.cells #[.int .i64 x] 3) (.cells #[tv] 34) (.cells #[.slice none 0 0] 22)
  refine ⟨keep_alloc b1 _, keep_alloc b2 _, keep_alloc b3 _, ?_, ownL_nil _ _, hb.alloc (by rw [hs]; omega) _⟩
  have := new_block (((w.alloc (.cells #[.int .i64 x] 3)).alloc (.cells #[tv] 34)).alloc (.cells #[.slice none 0 0] 22)) (.cells #[.bool false] 4)
  rw [hs] at this
  exact this

set_option maxRecDepth 100000 in
set_option maxHeartbeats 8000000 in
theorem setline_any (w : World) (a : Option Addr) (n c : Nat) (ls : List Ln) (h : IsLs w (.slice a n c) ls) (x : Int) (at' : Option Addr) (mt ct : Nat) (zs : List Int) (hz : IsInts w (.slice at' mt ct) zs) (hr : Rises ls) (hn : n ≤ 50000) :
    Calls Try.prog 20 #[.slice a n c, .int .i64 x, .slice at' mt ct] w fun e w' => ∃ a' c', e = .returned (.slice a' (setL x zs ls).length c') ∧ IsLs w' (.slice a' (setL x zs ls).length c') (setL x zs ls) ∧ Below w.heap.size w w' := by
  have hl := h.len
  have HA := hide (h.opens hl)
  have HZ := hide hz; have HR := hide hr; have HL := hide hl
  have hadd : Hid (∀ (wr : World) ao no co rs b, SetSt w.heap.size x (.slice at' mt ct) w wr ao no co rs b → rs.length = no → no ≤ 100000 → Calls Try.prog 35 #[.pointer (some ⟨w.heap.size + 3, 0, none⟩), .pointer (some ⟨w.heap.size + 1, 0, none⟩), .pointer (some ⟨w.heap.size + 2, 0, none⟩), .pointer (some ⟨w.heap.size, 0, none⟩)] wr fun e w' => ∃ a' n' c', e = .returned (.tuple #[]) ∧ SetSt w.heap.size x (.slice at' mt ct) w w' a' n' c' (addRs x at' mt ct rs b) true ∧ n' ≤ no + 1 ∧ (addRs x at' mt ct rs b).length = n') := fun wr ao no co rs b hs h1 h2 => setadd1_any w wr w.heap.size x at' mt ct ao no co rs b hs (Nat.le_refl _) h1 h2
  clear h hl hz hr
  go_enter Try.func20, Try.ntmps20
  go_wp2_with fail
  have HST := hide (four_new w x (.slice at' mt ct))
  obtain ⟨V0, eV0⟩ : ∃ W, (((w.alloc (.cells #[.int .i64 x] 3)).alloc (.cells #[.slice at' mt ct] 34)).alloc (.cells #[.slice none 0 0] 22)).alloc (.cells #[.bool false] 4) = W := ⟨_, rfl⟩
  rw [eV0] at HST
  rw [eV0]
  clear eV0
  have e3 : w.heap.size + 1 + 1 + 1 = w.heap.size + 3 := rfl
  have e2 : w.heap.size + 1 + 1 = w.heap.size + 2 := rfl
  rw [e3, e2]
  clear e3 e2
  have HPL : Hid (posL x ls ≤ n) := by rw [← unhide HL]; exact posL_le x ls
  obtain ⟨g, eg⟩ : ∃ g, w.heap.size = g := ⟨_, rfl⟩
  have HBW : Hid (∀ W, Below g w W → Below w.heap.size w W) := fun W hW => by rw [eg]; exact hW
  have HEG := hide eg
  have hgw : g ≤ w.heap.size := by rw [eg]; exact Nat.le_refl _
  rw [eg] at HST hadd HA
  rw [eg]
  clear eg
  go_loopw [10] (fun i wr => ∃ (j : Nat) (ao : Option Addr) (no co : Nat) (rs : List Rl) (b : Bool), j ≤ n ∧ i = .int .i64 j ∧ SetSt g x (.slice at' mt ct) w wr ao no co rs b ∧ b = decide (posL x ls < j) ∧ Reads w rs (outL x zs ls j)) (fun i _ => n - (intOf i).toNat)
  case atStart => exact ⟨0, none, 0, 0, [], false, Nat.zero_le _, rfl, unhide HST, by simp, by simpa [outL] using Reads.nil w⟩
  case round =>
    clear HST
    obtain ⟨j, ao, no, co, rs, bb, hj, rfl, hst, hbb, hrd⟩ := hrel
    have hrl := hrd.len
    have hsl := hst.len
    have hol := outL_len (x := x) (zs := zs) (ls := ls) (j := j) (by rw [unhide HL]; exact hj)
    have hno : no ≤ 50001 := by omega
    by_cases hlt : j < n
    · obtain ⟨b, off, rfl, hb, hc⟩ := unhide HA (by omega)
      obtain ⟨k00, av, cv, k10, hi⟩ := hc j (by rw [unhide HL]; exact hlt)
      obtain ⟨T, eT⟩ : ∃ T, (lAt ls j).2 = T := ⟨_, rfl⟩
      obtain ⟨z, ez⟩ : ∃ z, (lAt ls j).1 = z := ⟨_, rfl⟩
      have elj : lAt ls j = (z, T) := Prod.ext ez eT
      rw [eT] at k10 hi
      rw [ez] at k00
      obtain ⟨m, em⟩ : ∃ m, T.length = m := ⟨_, rfl⟩
      rw [em] at k10 hi
      have HK : Hid (∀ W, Below g w W → W.cell? ⟨b, off + j * 2, none⟩ = some (.int .i64 z) ∧ W.cell? ⟨b, off + j * 2 + 1, none⟩ = some (.slice av m cv)) := fun W hW => ⟨((unhide HBW W hW).cell (p := ⟨b, off + j * 2, none⟩) (by rw [unhide HEG]; exact hb)).trans k00, ((unhide HBW W hW).cell (p := ⟨b, off + j * 2 + 1, none⟩) (by rw [unhide HEG]; exact hb)).trans k10⟩
      have HI := hide hi
      obtain ⟨k0, _⟩ := unhide HK wr hst.below
      obtain ⟨x0, _, _⟩ := block1 hst.hX
      have i0 : (0 : Int) ≤ (j : Int) := by omega
      have i1 : (j : Int) < (n : Int) := by omega
      have hlow : j < posL x ls → z < x := fun h2 => by rw [← ez]; exact posL_low x ls j h2
      have hhigh : posL x ls + (if thereL x ls = true then 1 else 0) ≤ j → x < z := fun h2 => by rw [← ez]; exact setL_behind (unhide HR) h2 (by rw [unhide HL]; exact hlt)
      have hthere : thereL x ls = true → posL x ls = j → z = x := fun h2 h3 => by rw [← ez, ← h3]; exact (there_iff.1 h2).2
      have HLOW := hide hlow; have HHIGH := hide hhigh; have HTHERE := hide hthere
      have HS := hide hst; have HRD0 := hide hrd; have HBB := hide hbb; have HELJ := hide elj
      have HNO := hide (show rs.length = no from hsl)
      clear hst hrd hc hb hi k00 k10 eT ez em elj hbb hlow hhigh hthere hrl hsl hol HA
      by_cases hzx : z = x
      · subst hzx
        have e1 : (z == z) = true := by simp
        have hpj : posL z ls = j := by
          have h2 := unhide HLOW; have h3 := unhide HHIGH
          rcases Nat.lt_trichotomy j (posL z ls) with h4 | h4 | h4
          · have := h2 h4; omega
          · exact h4.symm
          · have := h3 (by split <;> omega); omega
        have hth : thereL z ls = true := Classical.byContradiction fun h4 => by have := unhide HHIGH (by rw [if_neg h4]; omega); omega
        have hb0 : bb = false := by rw [unhide HBB]; simp; omega
        subst hb0
        have HOUT := hide (outL_here (zs := zs) hth)
        rw [hpj] at HOUT
        have HPJ := hide hpj
        clear hpj hth
        go_wp2_with fail
        go_quiet (fail)
        obtain ⟨V, eV⟩ : ∃ W, wr.drewN nq = W := ⟨_, rfl⟩
        have hsv := (unhide HS).keep (show Below wr.heap.size wr V by rw [← eV]; exact below_drewN (Below.refl _ _) _) hgw
        rw [eV]
        clear eV x0 k0 HS
        have HS := hide hsv
        clear hsv
        go_wp2_with (go_at_call 35; refine (unhide hadd _ _ _ _ _ _ (unhide HS) (unhide HNO) (by omega)).mono ?_; rintro e w5 ⟨a5, n5, c5, rfl, hs5, hn5, hl5⟩; have HS5 := hide hs5; clear hs5 hn5 hl5)
        go_roundw
        case rel => exact ⟨j + 1, a5, n5, c5, _, true, by omega, by go_num, unhide HS5, by rw [unhide HPJ]; simp, by rw [unhide HOUT]; exact addRs_reads (unhide HRD0) (unhide HZ)⟩
        case measure => simp [intOf]; omega
      · have e1 : (z == x) = false := by simpa using hzx
        by_cases hgt : x < z
        · have hpj : posL x ls ≤ j := Nat.le_of_not_lt fun h2 => by have := unhide HLOW h2; omega
          have hnt : posL x ls = j → ¬ thereL x ls = true := fun h2 h3 => hzx (unhide HTHERE h3 h2)
          have hmid : ∃ mid, Reads w (addRs x at' mt ct rs bb) mid ∧ outL x zs ls (j + 1) = mid ++ [(z, T)] ∧ true = decide (posL x ls < j + 1) := by
            by_cases e : posL x ls = j
            · have hb0 : bb = false := by rw [unhide HBB]; simp; omega
              have ho := outL_new (zs := zs) (hnt e) (by rw [e, unhide HL]; exact hlt)
              rw [e, unhide HELJ] at ho
              rw [hb0]
              exact ⟨_, addRs_reads (unhide HRD0) (unhide HZ), ho, by rw [e]; simp⟩
            · have hb0 : bb = true := by rw [unhide HBB]; simp; omega
              have ho := outL_high (zs := zs) (show posL x ls < j by omega) (by rw [unhide HL]; exact hlt)
              rw [unhide HELJ] at ho
              rw [hb0]
              exact ⟨_, (by rw [addRs, if_pos (Or.inl rfl)]; exact unhide HRD0), ho, by simp; omega⟩
          obtain ⟨mid, hmid1, hmid2, hmid3⟩ := hmid
          have HB1 := hide hmid3; have HOUT := hide hmid2; have HRDM := hide hmid1
          have e4 : decide (x < z) = true := decide_eq_true hgt
          clear hmid1 hmid2 hmid3 hpj hnt
          go_wp2_with fail
          go_quiet (fail)
          obtain ⟨V, eV⟩ : ∃ W, wr.drewN nq = W := ⟨_, rfl⟩
          have hsv := (unhide HS).keep (show Below wr.heap.size wr V by rw [← eV]; exact below_drewN (Below.refl _ _) _) hgw
          rw [eV]
          clear eV x0 k0 HS
          have HS := hide hsv
          clear hsv
          have k0 := (unhide HK V (unhide HS).below).1
          have x0 := (block1 (unhide HS).hX).1
          obtain ⟨wr, ewr⟩ : ∃ W, V = W := ⟨_, rfl⟩
          rw [ewr] at HS k0 x0
          rw [ewr]
          clear ewr V
          go_wp2_with fail
          go_quiet (fail)
          obtain ⟨V, eV⟩ : ∃ W, wr.drewN nq = W := ⟨_, rfl⟩
          have hsv := (unhide HS).keep (show Below wr.heap.size wr V by rw [← eV]; exact below_drewN (Below.refl _ _) _) hgw
          rw [eV]
          clear eV x0 k0 HS
          have HS := hide hsv
          clear hsv
          go_upto_region 11 with (go_at_call 35; refine (unhide hadd _ _ _ _ _ _ (unhide HS) (unhide HNO) (by omega)).mono ?_; rintro e w5 ⟨a5, n5, c5, rfl, hs5, hn5, hl5⟩; have HS5 := hide hs5; have HN5 := hide (show n5 ≤ 50002 by omega); clear hs5 hn5 hl5)
          clear HS HNO HRD0 HBB V
          obtain ⟨V, eV⟩ : ∃ W, w5 = W := ⟨_, rfl⟩
          rw [eV] at HS5
          rw [eV]
          clear eV w5
          obtain ⟨rs1, ers⟩ : ∃ r, addRs x at' mt ct rs bb = r := ⟨_, rfl⟩
          rw [ers] at HS5 HRDM
          have hsv := unhide HS5; have hrd := unhide HRDM; have hnb : n5 ≤ 50002 := unhide HN5
          clear HS5 HRDM HN5 ers
          have HSV := hide hsv; have HRD := hide hrd
          have hgs : g + 4 ≤ V.heap.size := by have := (block1 hsv.hP).2.2; omega
          have HGS := hide hgs
          have HNB := hide hnb
          have o0 := (block1 hsv.hO).1
          have o1 := (block1 hsv.hO).2.1
          have k0 := (unhide HK V hsv.below).1
          have k1 := (unhide HK V hsv.below).2
          have HS1 := hide ((unhide HSV).keep (Below.refl _ _).drew hgw)
          have HS2 := hide ((unhide HS1).keep ((Below.refl _ _).alloc (Nat.le_refl _) (.cells #[.int .i64 z, .slice av m cv] 55)) hgw)
          have o4 := (block1 ((unhide HSV).keep ((Below.refl _ _).alloc (Nat.le_refl _) (.cells #[.int .i64 z, .slice av m cv] 55)) hgw).hO).1
          have o5 : g + 2 < V.heap.size := by omega
          clear hsv hrd hgs hnb
          go_region_law (refine step_append_ls (by rfl) (.tmp 36) (.tmp 41) rfl (g + 4) (.slice a5 n5 c5) rs1 rfl (unhide HS2).own _ [(z, .slice av m cv)] rfl (rd_new V.drew z _) ones_one (n5 + 1) (by rw [(unhide HSV).len]; rfl) (by have := unhide HNB; omega) (Nat.le_trans (unhide HGS) (by simp)) ?_; intro a6 c6 w6 ho6 hg6; have HG3 := hide ((unhide HS2).grown hg6 (Nat.le_trans (unhide HGS) (by simp))); have HS4 := hide ((unhide HS1).more hgw (unhide HGS) hg6 ho6); have o2 := (block1 (unhide HG3).2.2.1).1; have o3 := (block1 (unhide HG3).2.2.1).2.1; clear ho6 hg6)
          all_goals
            go_wp2_with fail
            go_roundw
          all_goals first
            | exact ⟨j + 1, a6, n5 + 1, c6, _, _, by omega, by go_num, unhide HS4, unhide HB1, by rw [unhide HOUT]; exact (unhide HRD).append (Reads.one (unhide HI))⟩
            | (simp [intOf]; omega)
        · have hlt2 : z < x := by omega
          have hpj : j < posL x ls := Nat.lt_of_not_le fun h2 => by
            by_cases e : posL x ls = j
            · by_cases ht : thereL x ls = true
              · exact hzx (unhide HTHERE ht e)
              · have := unhide HHIGH (by rw [if_neg ht]; omega); omega
            · have := unhide HHIGH (by split <;> omega); omega
          have HB1 : Hid (bb = decide (posL x ls < j + 1)) := hide (by rw [unhide HBB, decide_eq_false (by omega), decide_eq_false (by omega)])
          have ho := outL_low (zs := zs) hpj
          rw [unhide HELJ] at ho
          have HOUT := hide ho
          clear ho hpj
          have e4 : decide (x < z) = false := decide_eq_false hgt
          go_wp2_with fail
          go_quiet (fail)
          obtain ⟨V, eV⟩ : ∃ W, wr.drewN nq = W := ⟨_, rfl⟩
          have hsv := (unhide HS).keep (show Below wr.heap.size wr V by rw [← eV]; exact below_drewN (Below.refl _ _) _) hgw
          rw [eV]
          clear eV x0 k0 HS
          have HS := hide hsv
          clear hsv
          have k0 := (unhide HK V (unhide HS).below).1
          have x0 := (block1 (unhide HS).hX).1
          obtain ⟨wr, ewr⟩ : ∃ W, V = W := ⟨_, rfl⟩
          rw [ewr] at HS k0 x0
          rw [ewr]
          clear ewr V
          go_wp2_with fail
          go_quiet (fail)
          obtain ⟨V, eV⟩ : ∃ W, wr.drewN nq = W := ⟨_, rfl⟩
          have hsv := (unhide HS).keep (show Below wr.heap.size wr V by rw [← eV]; exact below_drewN (Below.refl _ _) _) hgw
          rw [eV]
          clear eV x0 k0 HS
          have HS := hide hsv
          clear hsv
          go_upto_region 11 with fail
          have hsv := unhide HS; have hrd := unhide HRD0; have hnb : no ≤ 50002 := by omega
          obtain ⟨rs1, ers⟩ : ∃ r, rs = r := ⟨_, rfl⟩
          rw [ers] at hsv hrd
          clear HS HRD0 HNO ers HBB
          have HSV := hide hsv; have HRD := hide hrd
          have hgs : g + 4 ≤ V.heap.size := by have := (block1 hsv.hP).2.2; omega
          have HGS := hide hgs
          have HNB := hide hnb
          have o0 := (block1 hsv.hO).1
          have o1 := (block1 hsv.hO).2.1
          have k0 := (unhide HK V hsv.below).1
          have k1 := (unhide HK V hsv.below).2
          have HS1 := hide ((unhide HSV).keep (Below.refl _ _).drew hgw)
          have HS2 := hide ((unhide HS1).keep ((Below.refl _ _).alloc (Nat.le_refl _) (.cells #[.int .i64 z, .slice av m cv] 55)) hgw)
          have o4 := (block1 ((unhide HSV).keep ((Below.refl _ _).alloc (Nat.le_refl _) (.cells #[.int .i64 z, .slice av m cv] 55)) hgw).hO).1
          have o5 : g + 2 < V.heap.size := by omega
          clear hsv hrd hgs hnb
          go_region_law (refine step_append_ls (by rfl) (.tmp 36) (.tmp 41) rfl (g + 4) (.slice ao no co) rs1 rfl (unhide HS2).own _ [(z, .slice av m cv)] rfl (rd_new V.drew z _) ones_one (no + 1) (by rw [(unhide HSV).len]; rfl) (by have := unhide HNB; omega) (Nat.le_trans (unhide HGS) (by simp)) ?_; intro a6 c6 w6 ho6 hg6; have HG3 := hide ((unhide HS2).grown hg6 (Nat.le_trans (unhide HGS) (by simp))); have HS4 := hide ((unhide HS1).more hgw (unhide HGS) hg6 ho6); have o2 := (block1 (unhide HG3).2.2.1).1; have o3 := (block1 (unhide HG3).2.2.1).2.1; clear ho6 hg6)
          all_goals
            go_wp2_with fail
            go_roundw
          all_goals first
            | exact ⟨j + 1, a6, no + 1, c6, _, _, by omega, by go_num, unhide HS4, unhide HB1, by rw [unhide HOUT]; exact (unhide HRD).append (Reads.one (unhide HI))⟩
            | (simp [intOf]; omega)
    · obtain rfl : j = n := by omega
      have HS := hide hst
      have HNO := hide (show rs.length = no from hsl)
      have hfin : ∃ fin, addRs x at' mt ct rs bb = fin ∧ Reads w fin (setL x zs ls) := by
        refine ⟨_, rfl, ?_⟩
        by_cases e : posL x ls < j
        · have hb0 : bb = true := by rw [hbb]; simp; omega
          have ho := outL_end_high (x := x) (zs := zs) (ls := ls) (by rw [unhide HL]; exact e)
          rw [unhide HL] at ho
          rw [ho] at hrd
          rw [hb0, addRs, if_pos (Or.inl rfl)]
          exact hrd
        · have hb0 : bb = false := by rw [hbb]; simp; omega
          have ho := outL_end_low (x := x) (zs := zs) (ls := ls) (by have := unhide HPL; rw [unhide HL]; omega)
          rw [unhide HL] at ho
          rw [← ho, hb0]
          exact addRs_reads hrd (unhide HZ)
      obtain ⟨fin, hf1, hf2⟩ := hfin
      have HF2 := hide hf2
      have HADD := hide (unhide hadd _ _ _ _ _ _ (unhide HS) (unhide HNO) (by omega))
      rw [hf1] at HADD
      obtain ⟨SL, hSL⟩ : ∃ SL, setL x zs ls = SL := ⟨_, rfl⟩
      rw [hSL] at HF2
      have HSL := hide hSL
      clear hst hrd hbb hf1 hf2 hrl hsl hol hSL
      go_wp2_with (go_at_call 35; refine (unhide HADD).mono ?_; rintro e w5 ⟨a5, n5, c5, rfl, hs5, hn5, hl5⟩; have HS5 := hide hs5; have HL5 := hide hl5; obtain ⟨o0, _, _⟩ := block1 hs5.hO; clear hs5 hn5 hl5)
      go_ret
      have hlen : (setL x zs ls).length = n5 := by rw [unhide HSL, ← (unhide HF2).len]; exact unhide HL5
      have hbel := unhide HBW _ (unhide HS5).below
      refine ⟨a5, c5, ?_, ?_, ?_⟩
      · rw [hlen]; rfl
      · rw [hlen, unhide HSL]
        exact (unhide HS5).own.ls ((unhide HF2).below hbel)
      · exact hbel
end Go.Proofs.Ytjlcfdhghohccaa
