/-
  taskmillref.TakenOf.
-/
import Derived.Test.YtomhfnjnmhdpkaaTk
namespace Go.Proofs.Ytomhfnjnmhdpkaa
open Go.RowKit

theorem least_one {z : Int} {fs : List Bl} {k i : Nat} (h : Least z fs k) (h' : Least z fs i) : k = i := by
  rcases Nat.lt_trichotomy k i with h1 | h1 | h1
  · have h2 := h'.first k h1 h.ge
    have h3 := h.less i h'.lt h'.ge
    omega
  · exact h1
  · have h2 := h.first i h1 h'.ge
    have h3 := h'.less k h.lt h.ge
    omega
theorem least_eq {z : Int} {fs : List Bl} {i : Nat} (h : Least z fs i) : leastL (asks z) fs = some (aAt fs i) := by
  rcases leastL_spec z fs with ⟨_, h2⟩ | ⟨k, h1, h2⟩
  · exact absurd h.ge (h2 i h.lt)
  · rw [h1, least_one h2 h]
theorem least_none {z : Int} {fs : List Bl} (h : ∀ i, i < fs.length → ¬ z ≤ (aAt fs i).2) : leastL (asks z) fs = none := by
  rcases leastL_spec z fs with ⟨h1, _⟩ | ⟨k, _, h2⟩
  · exact h1
  · exact absurd h2.ge (h k h2.lt)
/-- A second half that comes next does not begin where another block does. -/
theorem take_ne {U : Int} {fs : List Bl} {S0 C0 z : Int} (hs : Fol fs) (hf : ∀ x ∈ fs, fitB U x = true) (hm : (S0, C0) ∈ fs) (hz : 1 ≤ z) (hK : C0 ≤ (2 : Int) ^ 31) {L R : List Bl} {x : Bl} (hL : (halves z S0 31 C0).2 = L ++ x :: R) : ∀ y ∈ insAll (noB (S0, C0) fs) L, y.1 ≠ x.1 := by
  intro y hy
  obtain ⟨h1, h2, h3, h4⟩ := fit_parts (hf _ hm)
  simp only at h1 h2 h3 h4
  have hs2 := halves_spec hz 31 C0 h1 h3 hK
  have hxm : x ∈ (halves z S0 31 C0).2 := by rw [hL]; simp
  have h5 := hs2.inn x hxm
  have h6 := pw_pos hs2.pd
  have h7 := hs2.one hxm
  rcases insAll_mem.1 hy with hy | hy
  · have hd := hs2.desc
    rw [hL, List.pairwise_append] at hd
    have := hd.2.2 y hy x (by simp)
    omega
  · obtain ⟨g1, g2⟩ := noB_iff.1 hy
    have g3 := pw_pos (fit_parts (hf _ g1)).1
    rcases fol_sep hs hm g1 g2 with h | h <;> simp only at h <;> omega
theorem insAll_snoc (xs L : List Bl) (x : Bl) : insAll xs (L ++ [x]) = insB x (insAll xs L) := by
  unfold insAll
  rw [List.foldl_append]
  rfl
def measS (v : Value) : Nat := (4294967296 - intOf v).toNat
def lenOf2 (w : World) (R : Nat) : Nat := match w.cell? ⟨R, 1, none⟩ with | some (.int _ c) => c.toNat | _ => 0
theorem lenOf2_of {w : World} {R : Nat} {x y : Int} {t : TypeId} (h : w.heap[R]? = some (.cells #[.int .i64 x, .int .i64 y] t (0, 0))) : lenOf2 w R = y.toNat := by
  unfold lenOf2
  rw [(block2 h).2.1]

set_option maxRecDepth 100000 in
set_option maxHeartbeats 4000000 in
theorem takenOf_any (w : World) (v : Value) (b : Int) (us fs : List Bl) (z : Int) (h : IsS w v b us fs) (hn : us.length ≤ 30000) (hm : fs.length ≤ 30000) (hf0 : spaceF b us fs = (0, 0)) (hz1 : 1 ≤ z) (hz2 : z ≤ 1073741824) :
    Calls Try.prog 16 #[v, .int .i64 z] w fun e w' => (leastL (asks z) fs = none ∧ (∃ au cu af cf nu nf, e = .returned (.tuple #[.agg #[.int .i64 b, .slice au nu cu, .slice af nf cf], .int .i64 0, .bool false]) ∧ nu + nf = us.length + fs.length) ∨ ∃ x sv, leastL (asks z) fs = some x ∧ e = .returned (.tuple #[sv, .int .i64 x.1, .bool true]) ∧ NewS w.heap.size w' sv b (takeUs z us x) (takeFs z fs x)) ∧ Below w.heap.size w w' := by
  obtain ⟨hg1, hg2, hg3, hg4, hg5, hg6⟩ := spaceF_good hf0
  obtain ⟨hu1, hu2⟩ := pow30 hg1.1 hg1.2
  have hshift := shift30 hg1.1 hg1.2
  have hpart := partN_spec _ _ _ _ hg5 (fun y hy => pw_pos (fit_parts (hg3.1 y hy)).1) (fun y hy => pw_pos (fit_parts (hg4.1 y hy)).1)
  have HFIT := hide hg4.1; have HPART := hide hpart; have HUF := hide hg3; have HRI := hide hg4.2
  have HPU : Hid (pw ((2 : Int) ^ b.toNat) = true) := (pw_iff _).2 ⟨b.toNat, by omega, rfl⟩
  obtain ⟨U, eU⟩ : ∃ U, (2 : Int) ^ b.toNat = U := ⟨_, rfl⟩
  rw [eU] at hu1 hu2 hshift HFIT HPART HUF HPU
  have hsh : IntKind.i64.wrap U = U := wrapi (by omega) (by omega)
  obtain ⟨a0, c0, a1, c1, rfl, hu, hf⟩ := h.form
  have HLU := hide hu; have HLF := hide hf
  have HOP := hide (hf.opens kb rfl)
  have HOB : Hid (0 < us.length → ∀ k, (Value.slice a0 us.length c0).ownBlock = some k → k < w.heap.size) := fun h0 => IsL.old kb hu h0
  obtain ⟨n, en⟩ : ∃ n, us.length = n := ⟨_, rfl⟩
  obtain ⟨m, em⟩ : ∃ m, fs.length = m := ⟨_, rfl⟩
  rw [en] at hn HLU HOB
  rw [em] at hm HLF HOP
  have hsz : us.length + fs.length = n + m := by rw [en, em]
  rw [hsz]
  have hv : Value.agg #[.int .i64 b, .slice a0 us.length c0, .slice a1 fs.length c1] = .agg #[.int .i64 b, .slice a0 n c0, .slice a1 m c1] := by rw [en, em]
  rw [hv]
  have HNU := hide en; have HNF := hide em
  obtain ⟨LO, eLO⟩ : ∃ X, leastL (asks z) fs = X := ⟨_, rfl⟩
  rw [eLO]
  have HLO := hide eLO
  obtain ⟨W0, e0, hB, k0, k1⟩ := two_new w (.cells #[.int .i64 b, .slice a0 n c0, .slice a1 m c1] 24) (.cells #[.int .i64 0, .slice none 0 0, .slice none 0 0] 24)
  have HX := hide hB; have HP := hide k0; have HG := hide k1; have HE := hide e0
  have HM0 : Hid (∀ i, i < m → z ≤ (aAt fs i).2 → (1 : Int) ≤ (aAt fs i).2) := fun i _ hz => by omega
  clear h hu hf en em hsz hv hB k0 k1 e0 hg1 hg2 hg3 hg4 hg5 hg6 hpart eLO
  go_enter Try.func16, Try.ntmps16
  go_upto_region 1 with fail
  rw [unhide HE]
  clear HE
  go_upto_region 2 with fail
  go_loopw [7] (fun s7 wr => ∃ x : Int, s7 = .int .i64 x ∧ 1 ≤ x ∧ x ≤ 2147483648 ∧ Hid (pw x = true) ∧ Hid (∀ i, i < m → z ≤ (aAt fs i).2 → x ≤ (aAt fs i).2) ∧ Hid (wr.heap[w.heap.size]? = some (.cells #[.int .i64 b, .slice a0 n c0, .slice a1 m c1] 24 (0, 0))) ∧ Hid (wr.heap[w.heap.size + 1]? = some (.cells #[.int .i64 0, .slice none 0 0, .slice none 0 0] 24 (0, 0))) ∧ Hid (Below w.heap.size w wr)) (fun s7 _ => measS s7)
  case atStart => exact ⟨1, rfl, by omega, by omega, hide ((pw_iff 1).2 ⟨0, by omega, rfl⟩), HM0, HP, HG, HX⟩
  case round =>
    clear HP HG HX HM0
    obtain ⟨x, rfl, hx1, hx2, HPX, HM, HP, HG, HX⟩ := hrel
    obtain ⟨⟨p0, p1, p2⟩, -, pl⟩ := block3 (unhide HP)
    have hw2 : IntKind.i64.wrap (x * 2) = x * 2 := wrapi (by omega) (by omega)
    by_cases hxU : x ≤ U
    · have HP2 : Hid (pw (x * 2) = true) := by
        have := pw_double (unhide HPX) (by omega)
        rw [Int.mul_comm] at this
        exact this
      by_cases hxz : x < z
      · have HM2 : Hid (∀ i, i < m → z ≤ (aAt fs i).2 → x * 2 ≤ (aAt fs i).2) := fun i hi hzi => by
          have h1 := (fit_parts (unhide HFIT (aAt fs i) (aAt_mem (by rw [unhide HNF]; exact hi)))).1
          have := pw_two h1 (unhide HPX) (by omega)
          omega
        go_wp2_with fail
        go_roundw
        case rel => first | exact ⟨x * 2, by go_num, by omega, by omega, HP2, HM2, HP, HG, HX⟩ | exact ⟨x * 2, by go_num, by omega, by omega, HP2, HM2⟩
        case measure =>
          show measS (.int .i64 (x * 2)) < measS (.int .i64 x)
          simp only [measS, intOf]
          omega
      · go_upto_region 6 with fail
        go_loopw [8] (fun s8 wr => ∃ i : Nat, i ≤ m ∧ s8 = .int .i64 (i : Int) ∧ Hid (∀ j, j < i → ¬ (aAt fs j).2 = x) ∧ Hid (wr.heap[w.heap.size]? = some (.cells #[.int .i64 b, .slice a0 n c0, .slice a1 m c1] 24 (0, 0))) ∧ Hid (wr.heap[w.heap.size + 1]? = some (.cells #[.int .i64 0, .slice none 0 0, .slice none 0 0] 24 (0, 0))) ∧ Hid (Below w.heap.size w wr)) (fun s8 _ => m - (intOf s8).toNat)
        case atStart => first | exact ⟨0, Nat.zero_le _, rfl, hide (fun i hi => absurd hi (Nat.not_lt_zero _)), HP, HG, HX⟩ | exact ⟨0, Nat.zero_le _, rfl, hide (fun i hi => absurd hi (Nat.not_lt_zero _))⟩
        case round =>
          clear HP HG HX p0 p1 p2 pl
          obtain ⟨i, hi, rfl, HNE, HP, HG, HX⟩ := hrel
          obtain ⟨⟨p0, p1, p2⟩, -, pl⟩ := block3 (unhide HP)
          by_cases hlt : i < m
          · obtain ⟨b0, o0, ha0, hb0, l0⟩ := unhide HOP (by omega)
            subst ha0
            have hiu : i < fs.length := by rw [unhide HNF]; exact hlt
            obtain ⟨⟨t, c⟩, hx⟩ : ∃ z, aAt fs i = z := ⟨_, rfl⟩
            obtain ⟨k0, k1⟩ := (l0.below (unhide HX) hb0).block (j := i) hiu hx
            have i0 : (0 : Int) ≤ (i : Int) := by omega
            have i1 : (i : Int) < (m : Int) := by omega
            have hw3 : IntKind.i64.wrap ((i : Int) + 1) = (i : Int) + 1 := wrapi (by omega) (by omega)
            by_cases hcx : c = x
            · subst hcx
              have hb4 : (c != c) = false := by simp
              have hmem : (t, c) ∈ fs := by rw [← hx]; exact aAt_mem hiu
              have hle : Least z fs i := ⟨hiu, by rw [hx]; show z ≤ c; omega, fun j hj hzj => by rw [hx]; have := unhide HM j (by rw [← unhide HNF]; exact hj) hzj; show c ≤ _; omega, fun j hj hzj => by rw [hx]; have h1 := unhide HM j (by omega) hzj; have h2 := unhide HNE j hj; show c < _; omega⟩
              have HLS : Hid (LO = some (t, c)) := by rw [← unhide HLO, least_eq hle, hx]; exact rfl
              obtain ⟨hp, h0, hmo, hend⟩ := fit_parts (unhide HFIT _ hmem)
              simp only at hp h0 hmo hend
              have hpos := pw_pos hp
              have h31 : c ≤ (2 : Int) ^ 31 := by rw [show (2 : Int) ^ 31 = 2147483648 from by decide]; omega
              have HRS := hide (take_rises (unhide HRI) (unhide HPART).fol' (unhide HFIT) hmem hz1 h31)
              have HTN := hide (fun (L R : List Bl) (y : Bl) (hL : (halves z t 31 c).2 = L ++ y :: R) => take_ne (unhide HPART).fol' (unhide HFIT) hmem hz1 h31 hL)
              have HUN : Hid (∀ y ∈ us, y.1 ≠ t) := fun y hy => by
                have h1 := (unhide HPART).sep y hy (t, c) hmem
                exact h1.ne (pw_pos (fit_parts ((unhide HUF).1 y hy)).1) hpos
              have HNO : Hid (∀ W, Below w.heap.size w W → Calls Try.prog 33 #[.slice (some ⟨b0, o0, none⟩) m c1, .agg #[.int .i64 t, .int .i64 c]] W fun e w' => ∃ a' c', e = .returned (.slice a' (noB (t, c) fs).length c') ∧ Own KB W.heap.size w' (.slice a' (noB (t, c) fs).length c') (noB (t, c) fs) ∧ Below W.heap.size W w') := fun W hW => refNo_any W _ fs t c ((unhide HLF).below hW) (by rw [unhide HNF]; omega)
              have HNL := hide (noB_sub (t, c) fs).length_le
              obtain ⟨nl, enl⟩ : ∃ X, noB (t, c) fs = X := ⟨_, rfl⟩
              rw [enl] at HNO HRS HTN HNL
              have HEN := hide enl
              obtain ⟨nk, enk⟩ : ∃ X, nl.length = X := ⟨_, rfl⟩
              rw [enk] at HNO HNL
              have hnk : nk ≤ 30000 := by have h1 := unhide HNL; rw [unhide HNF] at h1; omega
              have HNK := hide enk
              have HPD : Hid (pw c = true ∧ t % c = 0 ∧ c ≤ (2 : Int) ^ 31) := ⟨hp, hmo, h31⟩
              have HEQ : Hid (halves z t 31 c = ((halves z t 31 c).1, [] ++ (halves z t 31 c).2)) := rfl
              have ht1 : t ≤ 1073741824 := by omega
              have HPa := hide (keep_alloc (unhide HP) (.cells #[.int .i64 t, .int .i64 c] 38)); have HGa := hide (keep_alloc (unhide HG) (.cells #[.int .i64 t, .int .i64 c] 38)); have HXa := hide ((unhide HX).alloc (unhide HX).size (.cells #[.int .i64 t, .int .i64 c] 38)); have HB := hide (new_block wr (.cells #[.int .i64 t, .int .i64 c] 38))
              have hgl : w.heap.size + 1 < wr.heap.size := size_of (unhide HG)
              go_upto_region 9 with fail
              obtain ⟨VB, eVB⟩ : ∃ X, wr.heap.size = X := ⟨_, rfl⟩
              obtain ⟨W1, e1⟩ : ∃ X, wr.alloc (.cells #[.int .i64 t, .int .i64 c] 38) = X := ⟨_, rfl⟩
              rw [e1] at HPa HGa HXa HB
              rw [eVB] at HB hgl
              (try rw [e1]); (try rw [eVB])
              clear e1 eVB k0 k1 p0 p1 p2 pl hx l0 hb0 hiu hle hmem hp hmo hend enl enk h31 HNE HM HP HG HX HFIT HPART HLO HOP
              obtain ⟨⟨p0, p1, p2⟩, ⟨pf0, pf1, pf2⟩, pl⟩ := block3 (unhide HPa)
              obtain ⟨q0, q1, qf0, qf1, ql⟩ := block2 (unhide HB)
              go_upto_region 11 with (go_at_call 33; (with_reducible refine Calls.mono (unhide HNO _ (unhide HXa)) ?_); rintro e w2 ⟨a2, c2, rfl, ho2, hb2⟩; have HX2 := hide (Below.next (unhide HXa) hb2 (Nat.le_refl _)); have HP2 := hide (keep_below (unhide HPa) hb2); have HG2 := hide (keep_below (unhide HGa) hb2); have HB2 := hide (keep_below (unhide HB) hb2); have HO2 := hide (ho2.base (base' := VB + 1) (size_of (unhide HB))); clear ho2 hb2 p0 p1 p2 pf0 pf1 pf2 pl q0 q1 qf0 qf1 ql; obtain ⟨⟨p0, p1, p2⟩, ⟨pf0, pf1, pf2⟩, pl⟩ := block3 (unhide HP2))
              have HP3 : Hid ((w2.setCell ⟨w.heap.size, 2, none⟩ (.slice a2 nk c2)).heap[w.heap.size]? = some (.cells #[.int .i64 b, .slice a0 n c0, .slice a2 nk c2] 24 (0, 0))) := set3c (unhide HP2)
              have HG3 := hide (keep_set (g := w.heap.size) (o := 2) (v := .slice a2 nk c2) (unhide HG2) (by omega))
              have HB3 := hide (keep_set (g := w.heap.size) (o := 2) (v := .slice a2 nk c2) (unhide HB2) (by omega))
              have HO3 := hide ((unhide HO2).set (R := w.heap.size) (i := 2) (y := .slice a2 nk c2) (by omega))
              have HX3 := hide (below_set (i := 2) (unhide HX2) (Nat.le_refl _) (.slice a2 nk c2))
              obtain ⟨W3, e3⟩ : ∃ X, w2.setCell ⟨w.heap.size, 2, none⟩ (.slice a2 nk c2) = X := ⟨_, rfl⟩
              rw [e3] at HP3 HG3 HB3 HO3 HX3
              (try rw [e3])
              clear e3 p0 p1 p2 pf0 pf1 pf2 pl HP2 HG2 HB2 HO2 HX2
              clear HXa HPa HGa HB HNO
              go_loopw [45] (fun _ wr => ∃ (k r cp : Nat) (d : Int) (a : Option Addr) (L : List Bl), Hid (L.length + k = 31) ∧ Hid (r = nk + L.length) ∧ Hid (pw d = true ∧ t % d = 0 ∧ d ≤ (2 : Int) ^ k) ∧ Hid (halves z t 31 c = ((halves z t k d).1, L ++ (halves z t k d).2)) ∧ Hid ((insAll nl L).length = r) ∧ Hid (Own KB (VB + 1) wr (.slice a r cp) (insAll nl L)) ∧ Hid (wr.heap[w.heap.size]? = some (.cells #[.int .i64 b, .slice a0 n c0, .slice a r cp] 24 (0, 0))) ∧ Hid (wr.heap[w.heap.size + 1]? = some (.cells #[.int .i64 0, .slice none 0 0, .slice none 0 0] 24 (0, 0))) ∧ Hid (wr.heap[VB]? = some (.cells #[.int .i64 t, .int .i64 d] 38 (0, 0))) ∧ Hid (Below w.heap.size w wr)) (fun _ wr => lenOf2 wr VB)
              case atStart => exact ⟨31, nk, c2, c, a2, [], hide rfl, hide rfl, HPD, HEQ, HNK, HO3, HP3, HG3, HB3, HX3⟩
              case round =>
                clear HX3 HP3 HG3 HB3 HO3 HPD HEQ
                obtain ⟨k, r, cp, d, a, L, HLk, Hr, HPD, HEQ, HLN, HO, HP, HG, HB, HX⟩ := hrel
                have hr5 : r ≤ 30031 := by have h1 := unhide HLk; have h2 := unhide Hr; omega
                have hd1 := pw_pos (unhide HPD).1
                have hd2 := pw_le (unhide HPD).1
                have hd0 : (0 : Int) ≤ d := by omega
                obtain ⟨⟨p0, p1, p2⟩, ⟨pf0, pf1, pf2⟩, pl⟩ := block3 (unhide HP)
                obtain ⟨q0, q1, qf0, qf1, ql⟩ := block2 (unhide HB)
                by_cases hge : z ≤ d / 2
                · obtain ⟨k, rfl⟩ : ∃ k', k = k' + 1 := by
                    cases k with
                    | zero =>
                      have := (unhide HPD).2.2
                      rw [Int.pow_zero] at this
                      omega
                    | succ k => exact ⟨k, rfl⟩
                  obtain ⟨hh1, hh2⟩ := pw_half (unhide HPD).1 (by omega)
                  obtain ⟨hh3, hh4⟩ := mate_half (unhide HPD).1 (by omega) (unhide HPD).2.1
                  have hh5 : d / 2 ≤ (2 : Int) ^ k := by
                    have := (unhide HPD).2.2
                    rw [Int.pow_succ] at this
                    omega
                  have hE2 := unhide HEQ
                  have e2 : halves z t (k + 1) d = ((halves z t k (d / 2)).1, (t + d / 2, d / 2) :: (halves z t k (d / 2)).2) := by rw [halves, if_pos hge]
                  rw [e2] at hE2
                  have htd : d.tdiv 2 = d / 2 := Int.tdiv_eq_ediv_of_nonneg hd0
                  obtain ⟨D, eD⟩ : ∃ D, d / 2 = D := ⟨_, rfl⟩
                  rw [eD] at hh1 hh2 hh4 hh5 hE2 hge htd
                  have HPD2 : Hid (pw D = true ∧ t % D = 0 ∧ D ≤ (2 : Int) ^ k) := ⟨hh1, hh4, hh5⟩
                  have HEQ2 : Hid (halves z t 31 c = ((halves z t k D).1, (L ++ [(t + D, D)]) ++ (halves z t k D).2)) := by rw [hE2]; simp; exact hide trivial
                  have hD1 := pw_pos hh1
                  have hD2 := pw_le hh1
                  have hwD : IntKind.i64.wrap (t + D) = t + D := wrapi (by omega) (by omega)
                  have HRL : Hid (Rise (insAll nl L)) := by
                    have h1 := unhide HRS L.length
                    rw [hE2] at h1
                    simp only [List.take_left] at h1
                    exact h1
                  have HNEL : Hid (∀ y ∈ insAll nl L, y.1 ≠ t + D) := unhide HTN L _ (t + D, D) (by rw [hE2])
                  have HWI : Hid (∀ W, IsL KB W (.slice a r cp) (insAll nl L) → Calls Try.prog 34 #[.slice a r cp, .agg #[.int .i64 (t + D), .int .i64 D]] W fun e w' => ∃ a' c', e = .returned (.slice a' (r + 1) c') ∧ Own KB W.heap.size w' (.slice a' (r + 1) c') (insAll nl (L ++ [(t + D, D)])) ∧ Below W.heap.size W w') := fun W hW => by
                    have := refWith_any W _ (insAll nl L) (t + D) D hW (by rw [unhide HLN]; omega) (unhide HRL) (unhide HNEL)
                    rw [unhide HLN] at this
                    rw [insAll_snoc]
                    exact this
                  have HLN2 : Hid ((insAll nl (L ++ [(t + D, D)])).length = r + 1) := by rw [insAll_snoc, insB_len, unhide HLN]; exact rfl
                  have HLR := hide (lenOf2_of (unhide HB)); have HHD := hide hh2
                  have HB4 : Hid ((wr.setCell ⟨VB, 1, none⟩ (.int .i64 D)).heap[VB]? = some (.cells #[.int .i64 t, .int .i64 D] 38 (0, 0))) := set2c (unhide HB)
                  have HP4 := hide (keep_set (g := VB) (o := 1) (v := .int .i64 D) (unhide HP) (by omega))
                  have HG4 := hide (keep_set (g := VB) (o := 1) (v := .int .i64 D) (unhide HG) (by omega))
                  have HO4 := hide ((unhide HO).set (R := VB) (i := 1) (y := .int .i64 D) (Nat.lt_succ_self _))
                  have HX4 := hide (below_set (i := 1) (unhide HX) (show w.heap.size ≤ VB by omega) (.int .i64 D))
                  obtain ⟨W4, e4⟩ : ∃ X, wr.setCell ⟨VB, 1, none⟩ (.int .i64 D) = X := ⟨_, rfl⟩
                  rw [e4] at HB4 HP4 HG4 HO4 HX4
                  have HE4 := hide e4
                  clear hh1 hh2 hh3 hh4 hh5 hE2 e2 e4 HEQ HPD
                  go_upto_region 13 with fail
                  rw [unhide HE4]
                  clear HE4 p0 p1 p2 pf0 pf1 pf2 pl q0 q1 qf0 qf1 ql HB HP HG HO HX eD
                  obtain ⟨⟨p0, p1, p2⟩, ⟨pf0, pf1, pf2⟩, pl⟩ := block3 (unhide HP4)
                  obtain ⟨q0, q1, qf0, qf1, ql⟩ := block2 (unhide HB4)
                  go_wp2_with (go_at_call 34; (with_reducible refine Calls.mono (unhide HWI _ (unhide HO4).isl) ?_); rintro e w2 ⟨a2, c2, rfl, ho2, hb2⟩; have HX2 := hide (Below.next (unhide HX4) hb2 (Nat.le_refl _)); have HP2 := hide (keep_below (unhide HP4) hb2); have HG2 := hide (keep_below (unhide HG4) hb2); have HB2 := hide (keep_below (unhide HB4) hb2); have HO2 := hide (ho2.base (base' := VB + 1) (size_of (unhide HB4))); clear ho2 hb2 p0 p1 p2 pf0 pf1 pf2 pl q0 q1 qf0 qf1 ql; obtain ⟨⟨p0, p1, p2⟩, ⟨pf0, pf1, pf2⟩, pl⟩ := block3 (unhide HP2))
                  have HP3 : Hid ((w2.setCell ⟨w.heap.size, 2, none⟩ (.slice a2 (r + 1) c2)).heap[w.heap.size]? = some (.cells #[.int .i64 b, .slice a0 n c0, .slice a2 (r + 1) c2] 24 (0, 0))) := set3c (unhide HP2)
                  have HG3 := hide (keep_set (g := w.heap.size) (o := 2) (v := .slice a2 (r + 1) c2) (unhide HG2) (by omega))
                  have HB3 := hide (keep_set (g := w.heap.size) (o := 2) (v := .slice a2 (r + 1) c2) (unhide HB2) (by omega))
                  have HO3 := hide ((unhide HO2).set (R := w.heap.size) (i := 2) (y := .slice a2 (r + 1) c2) (by omega))
                  have HX3 := hide (below_set (i := 2) (unhide HX2) (Nat.le_refl _) (.slice a2 (r + 1) c2))
                  obtain ⟨W3, e3⟩ : ∃ X, w2.setCell ⟨w.heap.size, 2, none⟩ (.slice a2 (r + 1) c2) = X := ⟨_, rfl⟩
                  rw [e3] at HP3 HG3 HB3 HO3 HX3
                  (try rw [e3])
                  clear e3 p0 p1 p2 pf0 pf1 pf2 pl HP2 HG2 HB2 HO2 HX2
                  go_roundw
                  case rel => exact ⟨k, r + 1, c2, D, a2, L ++ [(t + D, D)], hide (by rw [List.length_append]; show L.length + 1 + k = 31; have := unhide HLk; omega), hide (by rw [List.length_append]; show r + 1 = nk + (L.length + 1); have := unhide Hr; omega), HPD2, HEQ2, HLN2, HO3, HP3, HG3, HB3, HX3⟩
                  case measure =>
                    have h1 := lenOf2_of (unhide HB3)
                    have h2 := unhide HLR
                    show lenOf2 W3 VB < lenOf2 wr VB
                    rw [h1, h2]
                    have h3 := unhide HHD
                    omega
                · have e2 : halves z t k d = (d, []) := by
                    cases k with
                    | zero => rfl
                    | succ k => rw [halves, if_neg hge]
                  have hE2 := unhide HEQ
                  rw [e2, List.append_nil] at hE2
                  have HFU : Hid (takeUs z us (t, c) = insB (t, d) us) := by unfold takeUs; rw [hE2]; exact rfl
                  have HFF : Hid (takeFs z fs (t, c) = insAll nl L) := by unfold takeFs; rw [hE2, unhide HEN]; exact rfl
                  have htd : ¬ z ≤ d.tdiv 2 := by rw [Int.tdiv_eq_ediv_of_nonneg hd0]; exact hge
                  have HWU : Hid (∀ W, Below w.heap.size w W → Calls Try.prog 34 #[.slice a0 n c0, .agg #[.int .i64 t, .int .i64 d]] W fun e w' => ∃ a' c', e = .returned (.slice a' (n + 1) c') ∧ Own KB W.heap.size w' (.slice a' (n + 1) c') (insB (t, d) us) ∧ Below W.heap.size W w') := fun W hW => by
                    have := refWith_any W _ us t d ((unhide HLU).below hW) (by rw [unhide HNU]; omega) (unhide HUF).2 (unhide HUN)
                    rw [unhide HNU] at this
                    exact this
                  have HLU2 : Hid ((insB (t, d) us).length = n + 1) := by rw [insB_len, unhide HNU]; exact rfl
                  clear hE2 e2 HEQ HPD
                  go_upto_region 15 with (go_at_call 34; (with_reducible refine Calls.mono (unhide HWU _ (unhide HX)) ?_); rintro e w2 ⟨a2, c2, rfl, ho2, hb2⟩; have HX2 := hide (Below.next (unhide HX) hb2 (Nat.le_refl _)); have HP2 := hide (keep_below (unhide HP) hb2); have HG2 := hide (keep_below (unhide HG) hb2); have HB2 := hide (keep_below (unhide HB) hb2); have HO2 := hide (ho2.base (base' := VB + 1) (size_of (unhide HB))); have HOF2 := hide ((unhide HO).below hb2); clear ho2 hb2 p0 p1 p2 pf0 pf1 pf2 pl q0 q1 qf0 qf1 ql; obtain ⟨⟨p0, p1, p2⟩, ⟨pf0, pf1, pf2⟩, pl⟩ := block3 (unhide HP2))
                  have HP3 : Hid ((w2.setCell ⟨w.heap.size, 1, none⟩ (.slice a2 (n + 1) c2)).heap[w.heap.size]? = some (.cells #[.int .i64 b, .slice a2 (n + 1) c2, .slice a r cp] 24 (0, 0))) := set3b (unhide HP2)
                  have HG3 := hide (keep_set (g := w.heap.size) (o := 1) (v := .slice a2 (n + 1) c2) (unhide HG2) (by omega))
                  have HB3 := hide (keep_set (g := w.heap.size) (o := 1) (v := .slice a2 (n + 1) c2) (unhide HB2) (by omega))
                  have HO3 := hide ((unhide HO2).set (R := w.heap.size) (i := 1) (y := .slice a2 (n + 1) c2) (by omega))
                  have HF3 := hide ((unhide HOF2).set (R := w.heap.size) (i := 1) (y := .slice a2 (n + 1) c2) (by omega))
                  have HX3 := hide (below_set (i := 1) (unhide HX2) (Nat.le_refl _) (.slice a2 (n + 1) c2))
                  obtain ⟨W3, e3⟩ : ∃ X, w2.setCell ⟨w.heap.size, 1, none⟩ (.slice a2 (n + 1) c2) = X := ⟨_, rfl⟩
                  rw [e3] at HP3 HG3 HB3 HO3 HF3 HX3
                  (try rw [e3])
                  clear e3 p0 p1 p2 pf0 pf1 pf2 pl HP2 HG2 HB2 HO2 HOF2 HX2 HP HG HB HO HX HWU
                  obtain ⟨⟨p0, p1, p2⟩, ⟨pf0, pf1, pf2⟩, pl⟩ := block3 (unhide HP3)
                  obtain ⟨⟨g0, g1, g2⟩, ⟨gf0, gf1, gf2⟩, gl⟩ := block3 (unhide HG3)
                  obtain ⟨q0, q1, qf0, qf1, ql⟩ := block2 (unhide HB3)
                  have v0_ : w.heap.size + 1 ≠ VB := by omega
                  have v1_ : VB ≠ w.heap.size + 1 := by omega
                  have v2_ : w.heap.size ≠ VB := by omega
                  have v3_ : VB ≠ w.heap.size := by omega
                  go_wp2_with fail
                  go_region
                  clear p0 p1 p2 pf0 pf1 pf2 pl g0 g1 g2 gf0 gf1 gf2 gl q0 q1 qf0 qf1 ql
                  have HX_F1 := hide (putL_below (y0 := .int .i64 b) (y1 := .slice a2 (n + 1) c2) (y2 := .slice a r cp) (unhide HX3) (show w.heap.size ≤ w.heap.size + 1 by first | omega | (have := unhide HBA; omega)))
                  have Kp_F1 := hide ((putL_keep (y0 := .int .i64 b) (y1 := .slice a2 (n + 1) c2) (y2 := .slice a r cp) (show w.heap.size ≠ w.heap.size + 1 by omega)).trans (unhide HP3))
                  have Kg_F1 := hide (putL_new (y0 := .int .i64 b) (y1 := .slice a2 (n + 1) c2) (y2 := .slice a r cp) (unhide HG3))
                  have Kv_F1 := hide ((putL_keep (y0 := .int .i64 b) (y1 := .slice a2 (n + 1) c2) (y2 := .slice a r cp) (show VB ≠ w.heap.size + 1 by omega)).trans (unhide HB3))
                  have Ou_F1 := hide ((unhide HO3).keep (fun k hk => putL_keep (y0 := .int .i64 b) (y1 := .slice a2 (n + 1) c2) (y2 := .slice a r cp) (Own.ne (unhide HO3) (unhide HG3) (by decide) k hk)))
                  have Oj_F1 := hide ((unhide HF3).keep (fun k hk => putL_keep (y0 := .int .i64 b) (y1 := .slice a2 (n + 1) c2) (y2 := .slice a r cp) (Own.ne (unhide HF3) (unhide HG3) (by decide) k hk)))
                  obtain ⟨V1, eV1⟩ : ∃ X, putL W3 (w.heap.size + 1) (.int .i64 b) (.slice a2 (n + 1) c2) (.slice a r cp) = X := ⟨_, rfl⟩
                  rw [eV1] at HX_F1 Kp_F1 Kg_F1 Kv_F1 Ou_F1 Oj_F1
                  have eV12 : (((W3).setCell ⟨w.heap.size + 1, 0, none⟩ (.int .i64 b)).setCell ⟨w.heap.size + 1, 1, none⟩ (.slice a2 (n + 1) c2)).setCell ⟨w.heap.size + 1, 2, none⟩ (.slice a r cp) = V1 := eV1
                  rw [eV12]
                  clear eV1 eV12 HX3 HP3 HG3 HB3 HO3 HF3
                  have hV3 : Below V1.heap.size V1 V1.drew := (Below.refl _ _).drew
                  obtain ⟨V3, eV3⟩ : ∃ X, V1.drew = X := ⟨_, rfl⟩
                  rw [eV3] at hV3 ⊢
                  (have HX_F2 := hide (Below.next (unhide HX_F1) hV3 (by first | exact Nat.le_refl _ | (have := unhide HBA; omega))); have Kp_F2 := hide (keep_below (unhide Kp_F1) hV3); have Kg_F2 := hide (keep_below (unhide Kg_F1) hV3); have Kv_F2 := hide (keep_below (unhide Kv_F1) hV3); have Ou_F2 := hide ((unhide Ou_F1).below hV3); have Oj_F2 := hide ((unhide Oj_F1).below hV3); clear HX_F1 Kp_F1 Kg_F1 Kv_F1 Ou_F1 Oj_F1)
                  clear hV3 eV3
                  obtain ⟨⟨g0, g1, g2⟩, ⟨gf0, gf1, gf2⟩, gl⟩ := block3 (unhide Kg_F2)
                  go_wp2_with fail
                  refine bodyPost_ret (v := .tuple #[.agg #[.int .i64 b, .slice a2 (n + 1) c2, .slice a r cp], .int .i64 t, .bool true]) (by simp [results, Try.results16, go_sem, g0, g1, g2]) rfl ⟨Or.inr ⟨(t, c), _, unhide HLS, rfl, ⟨a2, c2, a, cp, ?_, ?_, ?_⟩⟩, unhide HX_F2⟩
                  · rw [unhide HFU, unhide HFF, unhide HLU2, unhide HLN]
                  · rw [unhide HFU, unhide HLU2]; exact (unhide Ou_F2).new.base (by omega)
                  · rw [unhide HFF, unhide HLN]; exact (unhide Oj_F2).new.base (by omega)
            · have hb4 : (c != x) = true := by simpa using hcx
              have HNE2 : Hid (∀ j, j < i + 1 → ¬ (aAt fs j).2 = x) := fun j hj => by
                rcases Nat.lt_or_eq_of_le (Nat.le_of_lt_succ hj) with h | h
                · exact unhide HNE j h
                · rw [h, hx]; exact hcx
              have HPa := hide (keep_alloc (unhide HP) (.cells #[.int .i64 t, .int .i64 c] 38)); have HGa := hide (keep_alloc (unhide HG) (.cells #[.int .i64 t, .int .i64 c] 38)); have HXa := hide ((unhide HX).alloc (unhide HX).size (.cells #[.int .i64 t, .int .i64 c] 38)); have HB := hide (new_block wr (.cells #[.int .i64 t, .int .i64 c] 38))
              go_upto_region 9 with fail
              obtain ⟨VB, eVB⟩ : ∃ X, wr.heap.size = X := ⟨_, rfl⟩
              obtain ⟨W1, e1⟩ : ∃ X, wr.alloc (.cells #[.int .i64 t, .int .i64 c] 38) = X := ⟨_, rfl⟩
              rw [e1] at HPa HGa HXa HB
              rw [eVB] at HB
              (try rw [e1]); (try rw [eVB])
              clear e1 eVB k0 k1 p0 p1 p2 pl hx l0 hb0 hiu
              obtain ⟨q0, q1, -, -, ql⟩ := block2 (unhide HB)
              go_wp2_with fail
              go_roundw
              case rel => first | exact ⟨i + 1, by omega, by go_num, HNE2, HPa, HGa, HXa⟩ | exact ⟨i + 1, by omega, by go_num, HNE2⟩
              case measure => simp [intOf]; omega
          · obtain rfl : i = m := by omega
            have i1 : ¬ (i : Int) < (i : Int) := by omega
            have HM2 : Hid (∀ j, j < i → z ≤ (aAt fs j).2 → x * 2 ≤ (aAt fs j).2) := fun j hj hzi => by
              have h1 := (fit_parts (unhide HFIT (aAt fs j) (aAt_mem (by rw [unhide HNF]; exact hj)))).1
              have h2 := unhide HM j hj hzi
              have h3 := unhide HNE j hj
              have := pw_two h1 (unhide HPX) (by omega)
              omega
            go_wp2_with fail
            go_roundw
            case rel => first | exact ⟨x * 2, by go_num, by omega, by omega, HP2, HM2, HP, HG, HX⟩ | exact ⟨x * 2, by go_num, by omega, by omega, HP2, HM2⟩
            case measure =>
              show measS (.int .i64 (x * 2)) < measS (.int .i64 x)
              simp only [measS, intOf]
              omega
    · have hno : LO = none := by
        rw [← unhide HLO]
        exact least_none (fun i hi hzi => by
          have h1 := unhide HM i (by rw [← unhide HNF]; exact hi) hzi
          obtain ⟨g1, g2, g3, g4⟩ := fit_parts (unhide HFIT (aAt fs i) (aAt_mem hi))
          omega)
      have HNO := hide hno
      clear hno
      obtain ⟨⟨g0, g1, g2⟩, ⟨gf0, gf1, gf2⟩, gl⟩ := block3 (unhide HG)
      go_wp2_with fail
      have HX_E1 := hide (putL_below (y0 := .int .i64 b) (y1 := .slice a0 n c0) (y2 := .slice a1 m c1) (unhide HX) (show w.heap.size ≤ w.heap.size + 1 by first | omega | (have := unhide HBA; omega)))
      have Kg_E1 := hide (putL_new (y0 := .int .i64 b) (y1 := .slice a0 n c0) (y2 := .slice a1 m c1) (unhide HG))
      obtain ⟨V1, eV1⟩ : ∃ X, putL wr (w.heap.size + 1) (.int .i64 b) (.slice a0 n c0) (.slice a1 m c1) = X := ⟨_, rfl⟩
      rw [eV1] at HX_E1 Kg_E1
      have eV12 : (((wr).setCell ⟨w.heap.size + 1, 0, none⟩ (.int .i64 b)).setCell ⟨w.heap.size + 1, 1, none⟩ (.slice a0 n c0)).setCell ⟨w.heap.size + 1, 2, none⟩ (.slice a1 m c1) = V1 := eV1
      rw [eV12]
      clear eV1 eV12 HX HG
      clear g0 g1 g2 gf0 gf1 gf2 gl
      obtain ⟨⟨g0, g1, g2⟩, ⟨gf0, gf1, gf2⟩, gl⟩ := block3 (unhide Kg_E1)
      exact bodyPost_ret (v := .tuple #[.agg #[.int .i64 b, .slice a0 n c0, .slice a1 m c1], .int .i64 0, .bool false]) (by simp [results, Try.results16, go_sem, g0, g1, g2]) rfl ⟨Or.inl ⟨unhide HNO, a0, c0, a1, c1, n, m, rfl, rfl⟩, unhide HX_E1⟩
end Go.Proofs.Ytomhfnjnmhdpkaa
