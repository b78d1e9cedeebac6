/-
  taskmillref.PipeFault where a pipe's parts go together.
-/
import Derived.Test.YtijogcjocandcaaI
namespace Go.Proofs.Ytijogcjocandcaa
open Go.RowKit

theorem contains_tasks (xs : List Po) (j : Nat) (hj : j ≤ xs.length) (t : Int) : ((tasks (xs.take j)).contains t = true) ↔ ∃ k, k < j ∧ (pAt xs k).1 = t := by
  rw [List.contains_iff_mem]
  unfold tasks
  rw [List.mem_map]
  constructor
  · rintro ⟨p, hp, rfl⟩
    obtain ⟨k, hk, rfl⟩ := List.getElem_of_mem hp
    rw [List.length_take] at hk
    refine ⟨k, by omega, ?_⟩
    have h2 : k < xs.length := by omega
    simp [pAt, List.getElem?_eq_getElem h2]
  · rintro ⟨k, hk, rfl⟩
    have h2 : k < xs.length := by omega
    refine ⟨pAt xs k, ?_, rfl⟩
    rw [List.mem_take_iff_getElem]
    exact ⟨k, by omega, by simp [pAt, List.getElem?_eq_getElem h2]⟩

set_option maxRecDepth 100000 in
set_option maxHeartbeats 2000000 in
theorem pf_senders (w : World) (v : Value) (P : Pp) (h : IsPipe w v P) (hs : Short P) (hw : wholeC P.cap P.items.length P.ss.length P.gs.length P.closed = 0) (hy : 0 < P.ss.length) :
    Calls Try.prog 14 #[v] w fun e w' => e = .returned (faultV (pipeF P)) ∧ Below w.heap.size w w' := by
  rw [pipeF_eq hw]
  obtain ⟨cap, items, closed, ss, gs⟩ := P
  obtain ⟨a1, c1, a2, c2, a3, c3, rfl, -, hS, hG⟩ := h.form
  obtain ⟨h1, h2, h3⟩ := hs
  obtain ⟨x1, x2, x3, x4, x5, x6⟩ := of_whole hw
  simp only at h1 h2 h3 h hw hS hG x1 x2 x3 x4 x5 x6 hy ⊢
  have HS := hide hS; have HG := hide hG; have HGO := hide (hG.opens kp rfl)
  have HAG := hide (any_pAt gs valuedP)
  obtain ⟨al, hal⟩ : ∃ al, ss ++ gs = al := ⟨_, rfl⟩
  have hln : al.length = ss.length + gs.length := by rw [← hal, List.length_append]
  rw [hal]
  have HAL := hide hal; have HLN := hide hln
  obtain ⟨FR, hFR⟩ : ∃ F, postsP ss.length 0 [] al = F := ⟨_, rfl⟩
  rw [hFR]
  have HF := hide hFR
  obtain ⟨q, hq⟩ : ∃ q, gs.any valuedP = q := ⟨_, rfl⟩
  rw [hq] at HAG ⊢
  obtain ⟨R, hR⟩ : ∃ R, (if FR.1 ≠ 0 then FR else if q = true then ((5, 2) : Int × Int) else (0, 0)) = R := ⟨_, rfl⟩
  rw [hR]
  have HRR := hide hR
  clear hR
  have hss : ss.length ≤ maxLen := by unfold maxLen; omega
  obtain ⟨n2, en2⟩ : ∃ n, ss.length = n := ⟨_, rfl⟩
  obtain ⟨n3, en3⟩ : ∃ n, gs.length = n := ⟨_, rfl⟩
  rw [en2] at HS HF x1 x5 h2 hy hss
  rw [en2, en3] at HLN
  rw [en3] at HG HGO HAG x1 x5 x6 h3
  rw [en2, en3]
  have HN2 := hide en2; have HN3 := hide en3
  generalize items.length = n1 at *
  clear h hS hG hal hFR hq hln en2 en3 hw
  have wl1 : IntKind.i64.wrap ((n1 : Int) + n2) = (n1 : Int) + n2 := wrapi (by omega) (by omega)
  have wl2 : IntKind.i64.wrap ((n1 : Int) + n2 + n3) = (n1 : Int) + n2 + n3 := wrapi (by omega) (by omega)
  have p1 : ¬ (5000 : Int) < (n1 : Int) + n2 + n3 := by omega
  have p2 : ¬ cap < 0 := by omega
  have p3 : ¬ 1000 < cap := by omega
  have p4 : ¬ cap < (n1 : Int) := by omega
  have HLE := hide (show n2 + n3 ≤ 5000 by omega)
  obtain ⟨y1, y2, y3⟩ := x5 hy
  subst y1
  have g5 : (0 : Int) < (n2 : Int) := by omega
  have g7 : ((n1 : Int) != cap) = false := by simpa using y2
  have g8 : ¬ (0 : Int) < (n3 : Int) := by omega
  clear y2 y3 hy
  clear x1 x2 x3 x4 x5 x6
  have HB := hide ((Below.refl w.heap.size w).alloc (Nat.le_refl _) (.cells #[.int .i64 cap, .slice a1 n1 c1, .bool false, .slice a2 n2 c2, .slice a3 n3 c3] 25) |>.alloc (by simp) (.cells #[.int .i64 0, .int .i64 0] 30))
  have HQ := hide (keep_alloc (new_block w (.cells #[.int .i64 cap, .slice a1 n1 c1, .bool false, .slice a2 n2 c2, .slice a3 n3 c3] 25)) (.cells #[.int .i64 0, .int .i64 0] 30))
  have HR := hide (new_block (w.alloc (.cells #[.int .i64 cap, .slice a1 n1 c1, .bool false, .slice a2 n2 c2, .slice a3 n3 c3] 25)) (.cells #[.int .i64 0, .int .i64 0] 30))
  rw [World.size_alloc] at HR
  obtain ⟨⟨p0, p1, p2, p3, p4⟩, -, pl⟩ := block5 (unhide HQ)
  obtain ⟨r0, r1, f0, f1, rl⟩ := block2 (unhide HR)
  go_enter Try.func14, Try.ntmps14
  go_upto_region 1 with fail
  obtain ⟨W0, eW⟩ : ∃ W, (w.alloc (.cells #[.int .i64 cap, .slice a1 n1 c1, .bool false, .slice a2 n2 c2, .slice a3 n3 c3] 25)).alloc (.cells #[.int .i64 0, .int .i64 0] 30) = W := ⟨_, rfl⟩
  rw [eW] at HB HQ HR p0 p1 p2 p3 p4 pl r0 r1 f0 f1 rl ⊢
  clear eW
  go_upto_region 13 with fail
  have HSS : Hid (∀ W, Below W0.heap.size W0 W → (W.cell? ⟨w.heap.size, 3, none⟩ = some (.slice a2 n2 c2) ∧ W.cell? ⟨w.heap.size, 4, none⟩ = some (.slice a3 n3 c3)) ∧ Below W0.heap.size W0 W) := fun W hW => by
    obtain ⟨⟨-, -, -, k3, k4⟩, -, -⟩ := block5 (keep_below (unhide HQ) hW)
    exact ⟨⟨k3, k4⟩, hW⟩
  clear p0 p1 p2 p3 p4 r0 r1 f0 f1
  obtain ⟨⟨p3, p4⟩, -⟩ := unhide HSS _ (Below.refl _ _)
  go_region_held3 (fun W => (W.cell? ⟨w.heap.size, 3, none⟩ = some (.slice a2 n2 c2) ∧ W.cell? ⟨w.heap.size, 4, none⟩ = some (.slice a3 n3 c3)) ∧ Below W0.heap.size W0 W)
    (first | with_reducible exact unhide HSS _ (Below.refl _ _).drew | with_reducible exact unhide HSS _ (unhide HX1) | with_reducible exact unhide HSS _ (unhide HX2))
    (first
     | (refine step_append kp rfl (.const (.slice none 0 0)) (.tmp 72) rfl W0.heap.size _ [] rfl (own_nil _ _) (.slice a2 n2 c2) ss rfl (IsL.below (IsL.below (unhide HS) (unhide HB)) (by first | exact (Below.refl _ _).drew | exact Below.refl _ _)) n2 (by rw [unhide HN2]; simp) h2 (Nat.le_refl _) ?_; intro a5 c5 w5 ho5 hg5; have HO5 := hide (own_nil_append ho5); have HX1 : Hid (Below W0.heap.size W0 w5) := Below.grown (by first | exact (Below.refl _ _).drew | exact Below.refl _ _) hg5 (Nat.le_refl _) (fun k hk => by cases hk); clear ho5 hg5)
     | (refine step_append kp rfl (.tmp 73) (.tmp 75) rfl W0.heap.size _ ss rfl (unhide HO5) (.slice a3 n3 c3) gs rfl (IsL.below (IsL.below (unhide HG) (unhide HB)) (unhide HX1)) (n2 + n3) (by rw [unhide HN2, unhide HN3]) (by show (n2 + n3) * 24 ≤ 140737488355328; have := unhide HLE; omega) (unhide HX1).size ?_; intro a6 c6 w6 ho6 hg6; have HO6 := hide ho6; have HX2 : Hid (Below W0.heap.size W0 w6) := Below.grown (unhide HX1) hg6 (unhide HX1).size (fun k hk => ((unhide HO5).lt k hk).1); clear ho6 hg6))
  all_goals (
    clear p3 p4
    have HQ6 := hide (keep_below (unhide HQ) (unhide HX2)); have HR6 := hide (keep_below (unhide HR) (unhide HX2)); have HB6 := hide (Below.next (unhide HB) (unhide HX2) (Nat.le_refl _))
    have HA6 := hide ((unhide HO6).isl.opens kp (by rw [List.length_append, unhide HN2, unhide HN3]))
    rw [unhide HAL] at HA6
    have HG6 : Hid (0 < n3 → ∃ b off, a3 = some ⟨b, off, none⟩ ∧ b < w6.heap.size ∧ Lies KP w6 b off gs) := fun hn => by
      obtain ⟨b, off, e, hb, hl⟩ := unhide HGO hn
      exact ⟨b, off, e, Nat.lt_of_lt_of_le hb (unhide HB6).size, hl.below (unhide HB6) hb⟩
    clear HGO HO6 HO5 HX1 HX2 HSS HS HG HQ HR HB pl rl
    obtain ⟨⟨p0, p1, p2, p3, p4⟩, -, pl⟩ := block5 (unhide HQ6)
    obtain ⟨r0, r1, f0, f1, rl⟩ := block2 (unhide HR6)
    obtain ⟨n, hn⟩ : ∃ n, n2 + n3 = n := ⟨_, rfl⟩
    rw [hn] at HA6 HLN
    rw [hn]
    have hnn : n ≤ 5000 := by rw [← hn]; exact unhide HLE
    have hn2 : n2 ≤ n := by omega
    have HNN := hide hn
    clear hn
    go_wp2_with fail
    go_loopw [4] (fun i wr => ∃ j : Nat, j ≤ n ∧ i = .int .i64 j ∧ Below w6.heap.size w6 wr ∧ FR = postsP n2 j (tasks (al.take j)) (al.drop j)) (fun i _ => n - (intOf i).toNat)
    case atStart => exact ⟨0, Nat.zero_le _, rfl, Below.refl _ _, by rw [← unhide HF]; simp [tasks]⟩
    case round =>
      obtain ⟨j, hj, rfl, hwr, hFj⟩ := hrel
      obtain ⟨w7, hw7⟩ : ∃ W, W = wr := ⟨_, rfl⟩
      subst hw7
      have HW7 := hide hwr
      have HQ8 := hide (keep_below (unhide HQ6) hwr); have HR8 := hide (keep_below (unhide HR6) hwr); have HB8 := hide (Below.next (unhide HB6) hwr (Nat.le_refl _))
      clear HQ6 HR6 HB6 p0 p1 p2 p3 p4 pl r0 r1 f0 f1 rl
      have HQ6 := HQ8; have HR6 := HR8; have HB6 := HB8
      clear HQ8 HR8 HB8
      obtain ⟨⟨p0, p1, p2, p3, p4⟩, -, pl⟩ := block5 (unhide HQ6)
      obtain ⟨r0, r1, f0, f1, rl⟩ := block2 (unhide HR6)
      by_cases hlt : j < n
      · obtain ⟨b0, o0, rfl, hb0, l0⟩ := unhide HA6 (by omega)
        obtain ⟨⟨t, c, u⟩, hx⟩ : ∃ x, al.getD j (0, 0, 0) = x := ⟨_, rfl⟩
        have hlt2 : j < al.length := by rw [unhide HLN]; exact hlt
        have hl7 := l0.below hwr hb0
        obtain ⟨k0, k1, k2⟩ := hl7.post (j := j) hlt2 hx
        have HL0 := hide hl7
        have hb6 := hb0
        clear hb0
        have hb0 : b0 < w7.heap.size := Nat.lt_of_lt_of_le hb6 hwr.size
        have HXJ := hide hx
        rw [drop_at hlt2, show pAt al j = (t, c, u) from hx, postsP] at hFj
        have HT : Hid (tasks (al.take (j + 1)) = tasks (al.take j) ++ [t]) := by rw [tasks_take hlt2]; unfold pAt; rw [hx]; rfl
        have HCT := hide (contains_tasks al j (by omega) t)
        obtain ⟨ct, hct⟩ : ∃ x, (tasks (al.take j)).contains t = x := ⟨_, rfl⟩
        have hFj2 : FR = if t < 1 ∨ c < 0 then (3, atOf n2 j) else if ct = true then (10, atOf n2 j) else postsP n2 (j + 1) (tasks (al.take j) ++ [t]) (al.drop (j + 1)) := by rw [← hct]; exact hFj
        rw [hct] at HCT
        have i0 : (0 : Int) ≤ (j : Int) := by omega
        have i1 : (j : Int) < (n : Int) := by omega
        clear hx l0 hl7 hb6 hwr hFj hct hlt2
        obtain ⟨at1, hat⟩ : ∃ a, atOf n2 j = a := ⟨_, rfl⟩
        rw [hat] at hFj2
        have HFJ := hide hFj2
        clear hFj2
        have hd : (n2 ≤ j ∧ at1 = 2) ∨ (¬ n2 ≤ j ∧ at1 = 1) := by
          rw [← hat]
          unfold atOf
          by_cases e : j < n2
          · rw [if_pos e]; exact Or.inr ⟨by omega, rfl⟩
          · rw [if_neg e]; exact Or.inl ⟨by omega, rfl⟩
        clear hat
        rcases hd with ⟨hd, rfl⟩ | ⟨hd, rfl⟩
        · have d1 : (n2 : Int) ≤ (j : Int) := by omega
          by_cases ht : t < 1
          · have hFR := unhide HFJ
            rw [if_pos (Or.inl ht)] at hFR
            have HBX := HB6; have HRX := HR6
            have hR := unhide HRR
            rw [hFR, if_pos (by simp)] at hR
            subst hR
            go_wp2_with (go_at_call 26; refine (f_any _ _ _).mono ?_; rintro e w9 ⟨rfl, hb9⟩; have HB9 := hide (Below.next (unhide HBX) hb9 (Nat.le_refl _)); have HR9 := hide (keep_below (unhide HRX) hb9); clear r0 r1 f0 f1 rl hb9; obtain ⟨r0, r1, f0, f1, rl⟩ := block2 (unhide HR9))
            exact bodyPost_ret (v := .agg #[.int .i64 3, .int .i64 2]) (by simp [results, Try.results14, go_sem, r0, r1]) rfl ⟨rfl, below_set2 (unhide HB9) (Nat.le_succ _) _ _⟩
          · by_cases hc : c < 0
            · have hFR := unhide HFJ
              rw [if_pos (Or.inr hc)] at hFR
              have HBX := HB6; have HRX := HR6
              have hR := unhide HRR
              rw [hFR, if_pos (by simp)] at hR
              subst hR
              go_wp2_with (go_at_call 26; refine (f_any _ _ _).mono ?_; rintro e w9 ⟨rfl, hb9⟩; have HB9 := hide (Below.next (unhide HBX) hb9 (Nat.le_refl _)); have HR9 := hide (keep_below (unhide HRX) hb9); clear r0 r1 f0 f1 rl hb9; obtain ⟨r0, r1, f0, f1, rl⟩ := block2 (unhide HR9))
              exact bodyPost_ret (v := .agg #[.int .i64 3, .int .i64 2]) (by simp [results, Try.results14, go_sem, r0, r1]) rfl ⟨rfl, below_set2 (unhide HB9) (Nat.le_succ _) _ _⟩
            · have hFR := unhide HFJ
              rw [if_neg (fun h => h.elim ht hc)] at hFR
              have HFK := hide hFR
              clear hFR HFJ
              go_wp2_with fail
              go_loopw [6] (fun i wr2 => ∃ k : Nat, k ≤ j ∧ i = .int .i64 k ∧ Below w7.heap.size w7 wr2 ∧ ∀ i, i < k → (pAt al i).1 ≠ t) (fun i _ => j - (intOf i).toNat)
              case atStart => exact ⟨0, Nat.zero_le _, rfl, Below.refl _ _, fun i hi => by omega⟩
              case round =>
                obtain ⟨k, hk, rfl, hnx, hne⟩ := hrel
                have HNE := hide hne
                have HBX := hide (Below.next (unhide HB6) hnx (Nat.le_refl _)); have HRX := hide (keep_below (unhide HR6) hnx); have HQX := hide (keep_below (unhide HQ6) hnx)
                have HNX := hide hnx
                obtain ⟨m0, m1, m2⟩ := ((unhide HL0).below hnx hb0).post (j := j) (by rw [unhide HLN]; exact hlt) (unhide HXJ)
                clear hne hnx k0 k1 k2 p0 p1 p2 p3 p4 pl r0 r1 f0 f1 rl
                obtain ⟨⟨p0, p1, p2, p3, p4⟩, -, pl⟩ := block5 (unhide HQX)
                obtain ⟨r0, r1, f0, f1, rl⟩ := block2 (unhide HRX)
                by_cases hkl : k < j
                · obtain ⟨⟨t2, c2', u2⟩, hx2⟩ : ∃ x, al.getD k (0, 0, 0) = x := ⟨_, rfl⟩
                  obtain ⟨z0, -, -⟩ := ((unhide HL0).below (unhide HNX) hb0).post (j := k) (by rw [unhide HLN]; omega) hx2
                  have y0 : (0 : Int) ≤ (k : Int) := by omega
                  have y1 : (k : Int) < (n : Int) := by omega
                  have y2 : (k : Int) < (j : Int) := by omega
                  have HP2 : Hid ((pAt al k).1 = t2) := by unfold pAt; rw [hx2]; exact rfl
                  clear hx2
                  by_cases htt : t2 = t
                  · subst htt
                    have z1 : (t2 == t2) = true := by simp
                    have hct : ct = true := (unhide HCT).2 ⟨k, hkl, unhide HP2⟩
                    have hFR := unhide HFK
                    rw [hct, if_pos rfl] at hFR
                    clear hct
                    go_wp2_with fail
                    go_quiet (fail)
                    have HBY := hide (below_drewN (unhide HBX) nq); have HRY := hide (keep_below (unhide HRX) (below_drewN (Below.refl _ _) nq))
                    clear HBX HRX p0 p1 p2 p3 p4 pl r0 r1 f0 f1 rl
                    have HBX := HBY; have HRX := HRY
                    obtain ⟨r0, r1, f0, f1, rl⟩ := block2 (unhide HRX)
                    have hR := unhide HRR
                    rw [hFR, if_pos (by simp)] at hR
                    subst hR
                    go_wp2_with (go_at_call 26; refine (f_any _ _ _).mono ?_; rintro e w9 ⟨rfl, hb9⟩; have HB9 := hide (Below.next (unhide HBX) hb9 (Nat.le_refl _)); have HR9 := hide (keep_below (unhide HRX) hb9); clear r0 r1 f0 f1 rl hb9; obtain ⟨r0, r1, f0, f1, rl⟩ := block2 (unhide HR9))
                    exact bodyPost_ret (v := .agg #[.int .i64 10, .int .i64 2]) (by simp [results, Try.results14, go_sem, r0, r1]) rfl ⟨rfl, below_set2 (unhide HB9) (Nat.le_succ _) _ _⟩
                  · have z1 : (t2 == t) = false := by simpa using htt
                    go_wp2_with fail
                    go_quiet (fail)
                    go_wp2_with fail
                    go_roundw
                    case rel => exact ⟨k + 1, by omega, by go_num, below_drewN (unhide HNX) _, fun i hi => by
                      by_cases e : i = k
                      · subst e; rw [unhide HP2]; exact htt
                      · exact unhide HNE i (by omega)⟩
                    case measure => simp [intOf]; omega
                · have hct : ct = false := by
                    cases ct with
                    | false => rfl
                    | true =>
                      obtain ⟨i, hi, he⟩ := (unhide HCT).1 rfl
                      exact absurd he (unhide HNE i (by omega))
                  have hFR := unhide HFK
                  rw [hct, if_neg (by simp)] at hFR
                  have HFN := hide hFR
                  have y2 : ¬ (k : Int) < (j : Int) := by omega
                  clear hct hFR
                  go_wp2_with fail
                  go_roundw
                  case rel => exact ⟨j + 1, by omega, by go_num, Below.next (unhide HW7) (unhide HNX) (Nat.le_refl _), by rw [unhide HT]; exact unhide HFN⟩
                  case measure => simp [intOf]; omega

        · have d1 : ¬ (n2 : Int) ≤ (j : Int) := by omega
          by_cases ht : t < 1
          · have hFR := unhide HFJ
            rw [if_pos (Or.inl ht)] at hFR
            have HBX := HB6; have HRX := HR6
            have hR := unhide HRR
            rw [hFR, if_pos (by simp)] at hR
            subst hR
            go_wp2_with (go_at_call 26; refine (f_any _ _ _).mono ?_; rintro e w9 ⟨rfl, hb9⟩; have HB9 := hide (Below.next (unhide HBX) hb9 (Nat.le_refl _)); have HR9 := hide (keep_below (unhide HRX) hb9); clear r0 r1 f0 f1 rl hb9; obtain ⟨r0, r1, f0, f1, rl⟩ := block2 (unhide HR9))
            exact bodyPost_ret (v := .agg #[.int .i64 3, .int .i64 1]) (by simp [results, Try.results14, go_sem, r0, r1]) rfl ⟨rfl, below_set2 (unhide HB9) (Nat.le_succ _) _ _⟩
          · by_cases hc : c < 0
            · have hFR := unhide HFJ
              rw [if_pos (Or.inr hc)] at hFR
              have HBX := HB6; have HRX := HR6
              have hR := unhide HRR
              rw [hFR, if_pos (by simp)] at hR
              subst hR
              go_wp2_with (go_at_call 26; refine (f_any _ _ _).mono ?_; rintro e w9 ⟨rfl, hb9⟩; have HB9 := hide (Below.next (unhide HBX) hb9 (Nat.le_refl _)); have HR9 := hide (keep_below (unhide HRX) hb9); clear r0 r1 f0 f1 rl hb9; obtain ⟨r0, r1, f0, f1, rl⟩ := block2 (unhide HR9))
              exact bodyPost_ret (v := .agg #[.int .i64 3, .int .i64 1]) (by simp [results, Try.results14, go_sem, r0, r1]) rfl ⟨rfl, below_set2 (unhide HB9) (Nat.le_succ _) _ _⟩
            · have hFR := unhide HFJ
              rw [if_neg (fun h => h.elim ht hc)] at hFR
              have HFK := hide hFR
              clear hFR HFJ
              go_wp2_with fail
              go_loopw [6] (fun i wr2 => ∃ k : Nat, k ≤ j ∧ i = .int .i64 k ∧ Below w7.heap.size w7 wr2 ∧ ∀ i, i < k → (pAt al i).1 ≠ t) (fun i _ => j - (intOf i).toNat)
              case atStart => exact ⟨0, Nat.zero_le _, rfl, Below.refl _ _, fun i hi => by omega⟩
              case round =>
                obtain ⟨k, hk, rfl, hnx, hne⟩ := hrel
                have HNE := hide hne
                have HBX := hide (Below.next (unhide HB6) hnx (Nat.le_refl _)); have HRX := hide (keep_below (unhide HR6) hnx); have HQX := hide (keep_below (unhide HQ6) hnx)
                have HNX := hide hnx
                obtain ⟨m0, m1, m2⟩ := ((unhide HL0).below hnx hb0).post (j := j) (by rw [unhide HLN]; exact hlt) (unhide HXJ)
                clear hne hnx k0 k1 k2 p0 p1 p2 p3 p4 pl r0 r1 f0 f1 rl
                obtain ⟨⟨p0, p1, p2, p3, p4⟩, -, pl⟩ := block5 (unhide HQX)
                obtain ⟨r0, r1, f0, f1, rl⟩ := block2 (unhide HRX)
                by_cases hkl : k < j
                · obtain ⟨⟨t2, c2', u2⟩, hx2⟩ : ∃ x, al.getD k (0, 0, 0) = x := ⟨_, rfl⟩
                  obtain ⟨z0, -, -⟩ := ((unhide HL0).below (unhide HNX) hb0).post (j := k) (by rw [unhide HLN]; omega) hx2
                  have y0 : (0 : Int) ≤ (k : Int) := by omega
                  have y1 : (k : Int) < (n : Int) := by omega
                  have y2 : (k : Int) < (j : Int) := by omega
                  have HP2 : Hid ((pAt al k).1 = t2) := by unfold pAt; rw [hx2]; exact rfl
                  clear hx2
                  by_cases htt : t2 = t
                  · subst htt
                    have z1 : (t2 == t2) = true := by simp
                    have hct : ct = true := (unhide HCT).2 ⟨k, hkl, unhide HP2⟩
                    have hFR := unhide HFK
                    rw [hct, if_pos rfl] at hFR
                    clear hct
                    go_wp2_with fail
                    go_quiet (fail)
                    have HBY := hide (below_drewN (unhide HBX) nq); have HRY := hide (keep_below (unhide HRX) (below_drewN (Below.refl _ _) nq))
                    clear HBX HRX p0 p1 p2 p3 p4 pl r0 r1 f0 f1 rl
                    have HBX := HBY; have HRX := HRY
                    obtain ⟨r0, r1, f0, f1, rl⟩ := block2 (unhide HRX)
                    have hR := unhide HRR
                    rw [hFR, if_pos (by simp)] at hR
                    subst hR
                    go_wp2_with (go_at_call 26; refine (f_any _ _ _).mono ?_; rintro e w9 ⟨rfl, hb9⟩; have HB9 := hide (Below.next (unhide HBX) hb9 (Nat.le_refl _)); have HR9 := hide (keep_below (unhide HRX) hb9); clear r0 r1 f0 f1 rl hb9; obtain ⟨r0, r1, f0, f1, rl⟩ := block2 (unhide HR9))
                    exact bodyPost_ret (v := .agg #[.int .i64 10, .int .i64 1]) (by simp [results, Try.results14, go_sem, r0, r1]) rfl ⟨rfl, below_set2 (unhide HB9) (Nat.le_succ _) _ _⟩
                  · have z1 : (t2 == t) = false := by simpa using htt
                    go_wp2_with fail
                    go_quiet (fail)
                    go_wp2_with fail
                    go_roundw
                    case rel => exact ⟨k + 1, by omega, by go_num, below_drewN (unhide HNX) _, fun i hi => by
                      by_cases e : i = k
                      · subst e; rw [unhide HP2]; exact htt
                      · exact unhide HNE i (by omega)⟩
                    case measure => simp [intOf]; omega
                · have hct : ct = false := by
                    cases ct with
                    | false => rfl
                    | true =>
                      obtain ⟨i, hi, he⟩ := (unhide HCT).1 rfl
                      exact absurd he (unhide HNE i (by omega))
                  have hFR := unhide HFK
                  rw [hct, if_neg (by simp)] at hFR
                  have HFN := hide hFR
                  have y2 : ¬ (k : Int) < (j : Int) := by omega
                  clear hct hFR
                  go_wp2_with fail
                  go_roundw
                  case rel => exact ⟨j + 1, by omega, by go_num, Below.next (unhide HW7) (unhide HNX) (Nat.le_refl _), by rw [unhide HT]; exact unhide HFN⟩
                  case measure => simp [intOf]; omega

      · have hF0 : FR = (0, 0) := by
          rw [hFj, List.drop_eq_nil_of_le (by rw [unhide HLN]; omega)]
          rfl
        have HR1 : Hid ((if q = true then ((5, 2) : Int × Int) else (0, 0)) = R) := by have hR := unhide HRR; rw [hF0, if_neg (by simp)] at hR; exact hR
        clear HRR hF0
        have HGG : Hid (0 < n3 → ∃ b off, a3 = some ⟨b, off, none⟩ ∧ Lies KP w7 b off gs) := fun hn => by
          obtain ⟨b, off, e, hb, hl⟩ := unhide HG6 hn
          exact ⟨b, off, e, hl.below hwr hb⟩
        clear hFj HF HA6 HG6 hwr
        go_wp2_with fail
        go_loopw [7] (fun i wr2 => ∃ j : Nat, j ≤ n3 ∧ i = .int .i64 j ∧ wr2 = w7 ∧ ∀ i, i < j → valuedP (pAt gs i) = false) (fun i _ => n3 - (intOf i).toNat)
        case atStart => exact ⟨0, Nat.zero_le _, rfl, rfl, fun i hi => by omega⟩
        case round =>
          obtain ⟨j, hj, rfl, hwr, hne⟩ := hrel
          subst hwr
          have HNE := hide hne
          clear hne
          by_cases hlt : j < n3
          · exfalso; omega
          · have hq : q = false := by
              cases q with
              | false => rfl
              | true =>
                obtain ⟨i, hi, he⟩ := (unhide HAG).1 rfl
                rw [unhide HNE i (by omega)] at he
                cases he
            have hR := unhide HR1
            rw [hq, if_neg (by simp)] at hR
            subst hR
            go_wp2_with fail
            exact bodyPost_ret (v := .agg #[.int .i64 0, .int .i64 0]) (by simp [results, Try.results14, go_sem, r0, r1]) rfl ⟨rfl, below_set2 (unhide HB6) (Nat.le_succ _) _ _⟩
  )

set_option maxRecDepth 100000 in
set_option maxHeartbeats 2000000 in
theorem pf_getters (w : World) (v : Value) (P : Pp) (h : IsPipe w v P) (hs : Short P) (hw : wholeC P.cap P.items.length P.ss.length P.gs.length P.closed = 0) (hy : ¬ 0 < P.ss.length) (hz : 0 < P.gs.length) :
    Calls Try.prog 14 #[v] w fun e w' => e = .returned (faultV (pipeF P)) ∧ Below w.heap.size w w' := by
  rw [pipeF_eq hw]
  obtain ⟨cap, items, closed, ss, gs⟩ := P
  obtain ⟨a1, c1, a2, c2, a3, c3, rfl, -, hS, hG⟩ := h.form
  obtain ⟨h1, h2, h3⟩ := hs
  obtain ⟨x1, x2, x3, x4, x5, x6⟩ := of_whole hw
  simp only at h1 h2 h3 h hw hS hG x1 x2 x3 x4 x5 x6 hy hz ⊢
  have HS := hide hS; have HG := hide hG; have HGO := hide (hG.opens kp rfl)
  have HAG := hide (any_pAt gs valuedP)
  obtain ⟨al, hal⟩ : ∃ al, ss ++ gs = al := ⟨_, rfl⟩
  have hln : al.length = ss.length + gs.length := by rw [← hal, List.length_append]
  rw [hal]
  have HAL := hide hal; have HLN := hide hln
  obtain ⟨FR, hFR⟩ : ∃ F, postsP ss.length 0 [] al = F := ⟨_, rfl⟩
  rw [hFR]
  have HF := hide hFR
  obtain ⟨q, hq⟩ : ∃ q, gs.any valuedP = q := ⟨_, rfl⟩
  rw [hq] at HAG ⊢
  obtain ⟨R, hR⟩ : ∃ R, (if FR.1 ≠ 0 then FR else if q = true then ((5, 2) : Int × Int) else (0, 0)) = R := ⟨_, rfl⟩
  rw [hR]
  have HRR := hide hR
  clear hR
  have hss : ss.length ≤ maxLen := by unfold maxLen; omega
  obtain ⟨n2, en2⟩ : ∃ n, ss.length = n := ⟨_, rfl⟩
  obtain ⟨n3, en3⟩ : ∃ n, gs.length = n := ⟨_, rfl⟩
  rw [en2] at HS HF x1 x5 h2 hy hss
  rw [en2, en3] at HLN
  rw [en3] at HG HGO HAG x1 x5 x6 h3 hz
  rw [en2, en3]
  have HN2 := hide en2; have HN3 := hide en3
  generalize items.length = n1 at *
  clear h hS hG hal hFR hq hln en2 en3 hw
  have wl1 : IntKind.i64.wrap ((n1 : Int) + n2) = (n1 : Int) + n2 := wrapi (by omega) (by omega)
  have wl2 : IntKind.i64.wrap ((n1 : Int) + n2 + n3) = (n1 : Int) + n2 + n3 := wrapi (by omega) (by omega)
  have p1 : ¬ (5000 : Int) < (n1 : Int) + n2 + n3 := by omega
  have p2 : ¬ cap < 0 := by omega
  have p3 : ¬ 1000 < cap := by omega
  have p4 : ¬ cap < (n1 : Int) := by omega
  have HLE := hide (show n2 + n3 ≤ 5000 by omega)
  obtain ⟨y1, y2⟩ := x6 hz
  subst y1
  have g5 : ¬ (0 : Int) < (n2 : Int) := by omega
  have g7 : ¬ (0 : Int) < (n1 : Int) := by omega
  have g8 : (0 : Int) < (n3 : Int) := by omega
  clear y2 hy
  clear x1 x2 x3 x4 x5 x6
  have HB := hide ((Below.refl w.heap.size w).alloc (Nat.le_refl _) (.cells #[.int .i64 cap, .slice a1 n1 c1, .bool false, .slice a2 n2 c2, .slice a3 n3 c3] 25) |>.alloc (by simp) (.cells #[.int .i64 0, .int .i64 0] 30))
  have HQ := hide (keep_alloc (new_block w (.cells #[.int .i64 cap, .slice a1 n1 c1, .bool false, .slice a2 n2 c2, .slice a3 n3 c3] 25)) (.cells #[.int .i64 0, .int .i64 0] 30))
  have HR := hide (new_block (w.alloc (.cells #[.int .i64 cap, .slice a1 n1 c1, .bool false, .slice a2 n2 c2, .slice a3 n3 c3] 25)) (.cells #[.int .i64 0, .int .i64 0] 30))
  rw [World.size_alloc] at HR
  obtain ⟨⟨p0, p1, p2, p3, p4⟩, -, pl⟩ := block5 (unhide HQ)
  obtain ⟨r0, r1, f0, f1, rl⟩ := block2 (unhide HR)
  go_enter Try.func14, Try.ntmps14
  go_upto_region 1 with fail
  obtain ⟨W0, eW⟩ : ∃ W, (w.alloc (.cells #[.int .i64 cap, .slice a1 n1 c1, .bool false, .slice a2 n2 c2, .slice a3 n3 c3] 25)).alloc (.cells #[.int .i64 0, .int .i64 0] 30) = W := ⟨_, rfl⟩
  rw [eW] at HB HQ HR p0 p1 p2 p3 p4 pl r0 r1 f0 f1 rl ⊢
  clear eW
  go_upto_region 13 with fail
  have HSS : Hid (∀ W, Below W0.heap.size W0 W → (W.cell? ⟨w.heap.size, 3, none⟩ = some (.slice a2 n2 c2) ∧ W.cell? ⟨w.heap.size, 4, none⟩ = some (.slice a3 n3 c3)) ∧ Below W0.heap.size W0 W) := fun W hW => by
    obtain ⟨⟨-, -, -, k3, k4⟩, -, -⟩ := block5 (keep_below (unhide HQ) hW)
    exact ⟨⟨k3, k4⟩, hW⟩
  clear p0 p1 p2 p3 p4 r0 r1 f0 f1
  obtain ⟨⟨p3, p4⟩, -⟩ := unhide HSS _ (Below.refl _ _)
  go_region_held3 (fun W => (W.cell? ⟨w.heap.size, 3, none⟩ = some (.slice a2 n2 c2) ∧ W.cell? ⟨w.heap.size, 4, none⟩ = some (.slice a3 n3 c3)) ∧ Below W0.heap.size W0 W)
    (first | with_reducible exact unhide HSS _ (Below.refl _ _).drew | with_reducible exact unhide HSS _ (unhide HX1) | with_reducible exact unhide HSS _ (unhide HX2))
    (first
     | (refine step_append kp rfl (.const (.slice none 0 0)) (.tmp 72) rfl W0.heap.size _ [] rfl (own_nil _ _) (.slice a2 n2 c2) ss rfl (IsL.below (IsL.below (unhide HS) (unhide HB)) (by first | exact (Below.refl _ _).drew | exact Below.refl _ _)) n2 (by rw [unhide HN2]; simp) h2 (Nat.le_refl _) ?_; intro a5 c5 w5 ho5 hg5; have HO5 := hide (own_nil_append ho5); have HX1 : Hid (Below W0.heap.size W0 w5) := Below.grown (by first | exact (Below.refl _ _).drew | exact Below.refl _ _) hg5 (Nat.le_refl _) (fun k hk => by cases hk); clear ho5 hg5)
     | (refine step_append kp rfl (.tmp 73) (.tmp 75) rfl W0.heap.size _ ss rfl (unhide HO5) (.slice a3 n3 c3) gs rfl (IsL.below (IsL.below (unhide HG) (unhide HB)) (unhide HX1)) (n2 + n3) (by rw [unhide HN2, unhide HN3]) (by show (n2 + n3) * 24 ≤ 140737488355328; have := unhide HLE; omega) (unhide HX1).size ?_; intro a6 c6 w6 ho6 hg6; have HO6 := hide ho6; have HX2 : Hid (Below W0.heap.size W0 w6) := Below.grown (unhide HX1) hg6 (unhide HX1).size (fun k hk => ((unhide HO5).lt k hk).1); clear ho6 hg6))
  all_goals (
    clear p3 p4
    have HQ6 := hide (keep_below (unhide HQ) (unhide HX2)); have HR6 := hide (keep_below (unhide HR) (unhide HX2)); have HB6 := hide (Below.next (unhide HB) (unhide HX2) (Nat.le_refl _))
    have HA6 := hide ((unhide HO6).isl.opens kp (by rw [List.length_append, unhide HN2, unhide HN3]))
    rw [unhide HAL] at HA6
    have HG6 : Hid (0 < n3 → ∃ b off, a3 = some ⟨b, off, none⟩ ∧ b < w6.heap.size ∧ Lies KP w6 b off gs) := fun hn => by
      obtain ⟨b, off, e, hb, hl⟩ := unhide HGO hn
      exact ⟨b, off, e, Nat.lt_of_lt_of_le hb (unhide HB6).size, hl.below (unhide HB6) hb⟩
    clear HGO HO6 HO5 HX1 HX2 HSS HS HG HQ HR HB pl rl
    obtain ⟨⟨p0, p1, p2, p3, p4⟩, -, pl⟩ := block5 (unhide HQ6)
    obtain ⟨r0, r1, f0, f1, rl⟩ := block2 (unhide HR6)
    obtain ⟨n, hn⟩ : ∃ n, n2 + n3 = n := ⟨_, rfl⟩
    rw [hn] at HA6 HLN
    rw [hn]
    have hnn : n ≤ 5000 := by rw [← hn]; exact unhide HLE
    have hn2 : n2 ≤ n := by omega
    have HNN := hide hn
    clear hn
    go_wp2_with fail
    go_loopw [4] (fun i wr => ∃ j : Nat, j ≤ n ∧ i = .int .i64 j ∧ Below w6.heap.size w6 wr ∧ FR = postsP n2 j (tasks (al.take j)) (al.drop j)) (fun i _ => n - (intOf i).toNat)
    case atStart => exact ⟨0, Nat.zero_le _, rfl, Below.refl _ _, by rw [← unhide HF]; simp [tasks]⟩
    case round =>
      obtain ⟨j, hj, rfl, hwr, hFj⟩ := hrel
      obtain ⟨w7, hw7⟩ : ∃ W, W = wr := ⟨_, rfl⟩
      subst hw7
      have HW7 := hide hwr
      have HQ8 := hide (keep_below (unhide HQ6) hwr); have HR8 := hide (keep_below (unhide HR6) hwr); have HB8 := hide (Below.next (unhide HB6) hwr (Nat.le_refl _))
      clear HQ6 HR6 HB6 p0 p1 p2 p3 p4 pl r0 r1 f0 f1 rl
      have HQ6 := HQ8; have HR6 := HR8; have HB6 := HB8
      clear HQ8 HR8 HB8
      obtain ⟨⟨p0, p1, p2, p3, p4⟩, -, pl⟩ := block5 (unhide HQ6)
      obtain ⟨r0, r1, f0, f1, rl⟩ := block2 (unhide HR6)
      by_cases hlt : j < n
      · obtain ⟨b0, o0, rfl, hb0, l0⟩ := unhide HA6 (by omega)
        obtain ⟨⟨t, c, u⟩, hx⟩ : ∃ x, al.getD j (0, 0, 0) = x := ⟨_, rfl⟩
        have hlt2 : j < al.length := by rw [unhide HLN]; exact hlt
        have hl7 := l0.below hwr hb0
        obtain ⟨k0, k1, k2⟩ := hl7.post (j := j) hlt2 hx
        have HL0 := hide hl7
        have hb6 := hb0
        clear hb0
        have hb0 : b0 < w7.heap.size := Nat.lt_of_lt_of_le hb6 hwr.size
        have HXJ := hide hx
        rw [drop_at hlt2, show pAt al j = (t, c, u) from hx, postsP] at hFj
        have HT : Hid (tasks (al.take (j + 1)) = tasks (al.take j) ++ [t]) := by rw [tasks_take hlt2]; unfold pAt; rw [hx]; rfl
        have HCT := hide (contains_tasks al j (by omega) t)
        obtain ⟨ct, hct⟩ : ∃ x, (tasks (al.take j)).contains t = x := ⟨_, rfl⟩
        have hFj2 : FR = if t < 1 ∨ c < 0 then (3, atOf n2 j) else if ct = true then (10, atOf n2 j) else postsP n2 (j + 1) (tasks (al.take j) ++ [t]) (al.drop (j + 1)) := by rw [← hct]; exact hFj
        rw [hct] at HCT
        have i0 : (0 : Int) ≤ (j : Int) := by omega
        have i1 : (j : Int) < (n : Int) := by omega
        clear hx l0 hl7 hb6 hwr hFj hct hlt2
        obtain ⟨at1, hat⟩ : ∃ a, atOf n2 j = a := ⟨_, rfl⟩
        rw [hat] at hFj2
        have HFJ := hide hFj2
        clear hFj2
        have hd : (n2 ≤ j ∧ at1 = 2) ∨ (¬ n2 ≤ j ∧ at1 = 1) := by
          rw [← hat]
          unfold atOf
          by_cases e : j < n2
          · rw [if_pos e]; exact Or.inr ⟨by omega, rfl⟩
          · rw [if_neg e]; exact Or.inl ⟨by omega, rfl⟩
        clear hat
        rcases hd with ⟨hd, rfl⟩ | ⟨hd, rfl⟩
        · have d1 : (n2 : Int) ≤ (j : Int) := by omega
          by_cases ht : t < 1
          · have hFR := unhide HFJ
            rw [if_pos (Or.inl ht)] at hFR
            have HBX := HB6; have HRX := HR6
            have hR := unhide HRR
            rw [hFR, if_pos (by simp)] at hR
            subst hR
            go_wp2_with (go_at_call 26; refine (f_any _ _ _).mono ?_; rintro e w9 ⟨rfl, hb9⟩; have HB9 := hide (Below.next (unhide HBX) hb9 (Nat.le_refl _)); have HR9 := hide (keep_below (unhide HRX) hb9); clear r0 r1 f0 f1 rl hb9; obtain ⟨r0, r1, f0, f1, rl⟩ := block2 (unhide HR9))
            exact bodyPost_ret (v := .agg #[.int .i64 3, .int .i64 2]) (by simp [results, Try.results14, go_sem, r0, r1]) rfl ⟨rfl, below_set2 (unhide HB9) (Nat.le_succ _) _ _⟩
          · by_cases hc : c < 0
            · have hFR := unhide HFJ
              rw [if_pos (Or.inr hc)] at hFR
              have HBX := HB6; have HRX := HR6
              have hR := unhide HRR
              rw [hFR, if_pos (by simp)] at hR
              subst hR
              go_wp2_with (go_at_call 26; refine (f_any _ _ _).mono ?_; rintro e w9 ⟨rfl, hb9⟩; have HB9 := hide (Below.next (unhide HBX) hb9 (Nat.le_refl _)); have HR9 := hide (keep_below (unhide HRX) hb9); clear r0 r1 f0 f1 rl hb9; obtain ⟨r0, r1, f0, f1, rl⟩ := block2 (unhide HR9))
              exact bodyPost_ret (v := .agg #[.int .i64 3, .int .i64 2]) (by simp [results, Try.results14, go_sem, r0, r1]) rfl ⟨rfl, below_set2 (unhide HB9) (Nat.le_succ _) _ _⟩
            · have hFR := unhide HFJ
              rw [if_neg (fun h => h.elim ht hc)] at hFR
              have HFK := hide hFR
              clear hFR HFJ
              go_wp2_with fail
              go_loopw [6] (fun i wr2 => ∃ k : Nat, k ≤ j ∧ i = .int .i64 k ∧ Below w7.heap.size w7 wr2 ∧ ∀ i, i < k → (pAt al i).1 ≠ t) (fun i _ => j - (intOf i).toNat)
              case atStart => exact ⟨0, Nat.zero_le _, rfl, Below.refl _ _, fun i hi => by omega⟩
              case round =>
                obtain ⟨k, hk, rfl, hnx, hne⟩ := hrel
                have HNE := hide hne
                have HBX := hide (Below.next (unhide HB6) hnx (Nat.le_refl _)); have HRX := hide (keep_below (unhide HR6) hnx); have HQX := hide (keep_below (unhide HQ6) hnx)
                have HNX := hide hnx
                obtain ⟨m0, m1, m2⟩ := ((unhide HL0).below hnx hb0).post (j := j) (by rw [unhide HLN]; exact hlt) (unhide HXJ)
                clear hne hnx k0 k1 k2 p0 p1 p2 p3 p4 pl r0 r1 f0 f1 rl
                obtain ⟨⟨p0, p1, p2, p3, p4⟩, -, pl⟩ := block5 (unhide HQX)
                obtain ⟨r0, r1, f0, f1, rl⟩ := block2 (unhide HRX)
                by_cases hkl : k < j
                · obtain ⟨⟨t2, c2', u2⟩, hx2⟩ : ∃ x, al.getD k (0, 0, 0) = x := ⟨_, rfl⟩
                  obtain ⟨z0, -, -⟩ := ((unhide HL0).below (unhide HNX) hb0).post (j := k) (by rw [unhide HLN]; omega) hx2
                  have y0 : (0 : Int) ≤ (k : Int) := by omega
                  have y1 : (k : Int) < (n : Int) := by omega
                  have y2 : (k : Int) < (j : Int) := by omega
                  have HP2 : Hid ((pAt al k).1 = t2) := by unfold pAt; rw [hx2]; exact rfl
                  clear hx2
                  by_cases htt : t2 = t
                  · subst htt
                    have z1 : (t2 == t2) = true := by simp
                    have hct : ct = true := (unhide HCT).2 ⟨k, hkl, unhide HP2⟩
                    have hFR := unhide HFK
                    rw [hct, if_pos rfl] at hFR
                    clear hct
                    go_wp2_with fail
                    go_quiet (fail)
                    have HBY := hide (below_drewN (unhide HBX) nq); have HRY := hide (keep_below (unhide HRX) (below_drewN (Below.refl _ _) nq))
                    clear HBX HRX p0 p1 p2 p3 p4 pl r0 r1 f0 f1 rl
                    have HBX := HBY; have HRX := HRY
                    obtain ⟨r0, r1, f0, f1, rl⟩ := block2 (unhide HRX)
                    have hR := unhide HRR
                    rw [hFR, if_pos (by simp)] at hR
                    subst hR
                    go_wp2_with (go_at_call 26; refine (f_any _ _ _).mono ?_; rintro e w9 ⟨rfl, hb9⟩; have HB9 := hide (Below.next (unhide HBX) hb9 (Nat.le_refl _)); have HR9 := hide (keep_below (unhide HRX) hb9); clear r0 r1 f0 f1 rl hb9; obtain ⟨r0, r1, f0, f1, rl⟩ := block2 (unhide HR9))
                    exact bodyPost_ret (v := .agg #[.int .i64 10, .int .i64 2]) (by simp [results, Try.results14, go_sem, r0, r1]) rfl ⟨rfl, below_set2 (unhide HB9) (Nat.le_succ _) _ _⟩
                  · have z1 : (t2 == t) = false := by simpa using htt
                    go_wp2_with fail
                    go_quiet (fail)
                    go_wp2_with fail
                    go_roundw
                    case rel => exact ⟨k + 1, by omega, by go_num, below_drewN (unhide HNX) _, fun i hi => by
                      by_cases e : i = k
                      · subst e; rw [unhide HP2]; exact htt
                      · exact unhide HNE i (by omega)⟩
                    case measure => simp [intOf]; omega
                · have hct : ct = false := by
                    cases ct with
                    | false => rfl
                    | true =>
                      obtain ⟨i, hi, he⟩ := (unhide HCT).1 rfl
                      exact absurd he (unhide HNE i (by omega))
                  have hFR := unhide HFK
                  rw [hct, if_neg (by simp)] at hFR
                  have HFN := hide hFR
                  have y2 : ¬ (k : Int) < (j : Int) := by omega
                  clear hct hFR
                  go_wp2_with fail
                  go_roundw
                  case rel => exact ⟨j + 1, by omega, by go_num, Below.next (unhide HW7) (unhide HNX) (Nat.le_refl _), by rw [unhide HT]; exact unhide HFN⟩
                  case measure => simp [intOf]; omega

        · exfalso; omega
      · have hF0 : FR = (0, 0) := by
          rw [hFj, List.drop_eq_nil_of_le (by rw [unhide HLN]; omega)]
          rfl
        have HR1 : Hid ((if q = true then ((5, 2) : Int × Int) else (0, 0)) = R) := by have hR := unhide HRR; rw [hF0, if_neg (by simp)] at hR; exact hR
        clear HRR hF0
        have HGG : Hid (0 < n3 → ∃ b off, a3 = some ⟨b, off, none⟩ ∧ Lies KP w7 b off gs) := fun hn => by
          obtain ⟨b, off, e, hb, hl⟩ := unhide HG6 hn
          exact ⟨b, off, e, hl.below hwr hb⟩
        clear hFj HF HA6 HG6 hwr
        go_wp2_with fail
        go_loopw [7] (fun i wr2 => ∃ j : Nat, j ≤ n3 ∧ i = .int .i64 j ∧ wr2 = w7 ∧ ∀ i, i < j → valuedP (pAt gs i) = false) (fun i _ => n3 - (intOf i).toNat)
        case atStart => exact ⟨0, Nat.zero_le _, rfl, rfl, fun i hi => by omega⟩
        case round =>
          obtain ⟨j, hj, rfl, hwr, hne⟩ := hrel
          subst hwr
          have HNE := hide hne
          clear hne
          by_cases hlt : j < n3
          · obtain ⟨b0, o0, rfl, l0⟩ := unhide HGG (by omega)
            obtain ⟨⟨t, c, u⟩, hx⟩ : ∃ x, gs.getD j (0, 0, 0) = x := ⟨_, rfl⟩
            obtain ⟨-, -, k2⟩ := l0.post (j := j) (by rw [unhide HN3]; exact hlt) hx
            have i0 : (0 : Int) ≤ (j : Int) := by omega
            have i1 : (j : Int) < (n3 : Int) := by omega
            have HP : Hid (valuedP (pAt gs j) = (u != 0)) := by unfold valuedP pAt; rw [hx]; rfl
            clear hx l0 HGG
            by_cases hu : u = 0
            · subst hu
              have hz1 : ((0 : Int) != 0) = false := by simp
              rw [hz1] at HP
              go_wp2_with fail
              go_roundw
              case rel => exact ⟨j + 1, by omega, by go_num, by first | rfl | trivial, fun i hi => by
                by_cases e : i = j
                · subst e; exact unhide HP
                · exact unhide HNE i (by omega)⟩
              case measure => simp [intOf]; omega
            · have hz1 : (u != 0) = true := by simpa using hu
              rw [hz1] at HP
              have hq : q = true := (unhide HAG).2 ⟨j, hlt, unhide HP⟩
              have hR := unhide HR1
              rw [hq, if_pos rfl] at hR
              subst hR
              go_wp2_with (go_at_call 26; refine (f_any _ _ _).mono ?_; rintro e w9 ⟨rfl, hb9⟩; have HB9 := hide (Below.next (unhide HB6) hb9 (Nat.le_refl _)); have HR9 := hide (keep_below (unhide HR6) hb9); clear r0 r1 f0 f1 rl hb9; obtain ⟨r0, r1, f0, f1, rl⟩ := block2 (unhide HR9))
              exact bodyPost_ret (v := .agg #[.int .i64 5, .int .i64 2]) (by simp [results, Try.results14, go_sem, r0, r1]) rfl ⟨rfl, below_set2 (unhide HB9) (Nat.le_succ _) _ _⟩
          · have hq : q = false := by
              cases q with
              | false => rfl
              | true =>
                obtain ⟨i, hi, he⟩ := (unhide HAG).1 rfl
                rw [unhide HNE i (by omega)] at he
                cases he
            have hR := unhide HR1
            rw [hq, if_neg (by simp)] at hR
            subst hR
            go_wp2_with fail
            exact bodyPost_ret (v := .agg #[.int .i64 0, .int .i64 0]) (by simp [results, Try.results14, go_sem, r0, r1]) rfl ⟨rfl, below_set2 (unhide HB6) (Nat.le_succ _) _ _⟩
  )

set_option maxRecDepth 100000 in
set_option maxHeartbeats 2000000 in
theorem pf_none (w : World) (v : Value) (P : Pp) (h : IsPipe w v P) (hs : Short P) (hw : wholeC P.cap P.items.length P.ss.length P.gs.length P.closed = 0) (hy : ¬ 0 < P.ss.length) (hz : ¬ 0 < P.gs.length) :
    Calls Try.prog 14 #[v] w fun e w' => e = .returned (faultV (pipeF P)) ∧ Below w.heap.size w w' := by
  rw [pipeF_eq hw]
  obtain ⟨cap, items, closed, ss, gs⟩ := P
  obtain ⟨a1, c1, a2, c2, a3, c3, rfl, -, hS, hG⟩ := h.form
  obtain ⟨h1, h2, h3⟩ := hs
  obtain ⟨x1, x2, x3, x4, x5, x6⟩ := of_whole hw
  simp only at h1 h2 h3 h hw hS hG x1 x2 x3 x4 x5 x6 hy hz ⊢
  have HS := hide hS; have HG := hide hG; have HGO := hide (hG.opens kp rfl)
  have HAG := hide (any_pAt gs valuedP)
  obtain ⟨al, hal⟩ : ∃ al, ss ++ gs = al := ⟨_, rfl⟩
  have hln : al.length = ss.length + gs.length := by rw [← hal, List.length_append]
  rw [hal]
  have HAL := hide hal; have HLN := hide hln
  obtain ⟨FR, hFR⟩ : ∃ F, postsP ss.length 0 [] al = F := ⟨_, rfl⟩
  rw [hFR]
  have HF := hide hFR
  obtain ⟨q, hq⟩ : ∃ q, gs.any valuedP = q := ⟨_, rfl⟩
  rw [hq] at HAG ⊢
  obtain ⟨R, hR⟩ : ∃ R, (if FR.1 ≠ 0 then FR else if q = true then ((5, 2) : Int × Int) else (0, 0)) = R := ⟨_, rfl⟩
  rw [hR]
  have HRR := hide hR
  clear hR
  have hss : ss.length ≤ maxLen := by unfold maxLen; omega
  obtain ⟨n2, en2⟩ : ∃ n, ss.length = n := ⟨_, rfl⟩
  obtain ⟨n3, en3⟩ : ∃ n, gs.length = n := ⟨_, rfl⟩
  rw [en2] at HS HF x1 x5 h2 hy hss
  rw [en2, en3] at HLN
  rw [en3] at HG HGO HAG x1 x5 x6 h3 hz
  rw [en2, en3]
  have HN2 := hide en2; have HN3 := hide en3
  generalize items.length = n1 at *
  clear h hS hG hal hFR hq hln en2 en3 hw
  have wl1 : IntKind.i64.wrap ((n1 : Int) + n2) = (n1 : Int) + n2 := wrapi (by omega) (by omega)
  have wl2 : IntKind.i64.wrap ((n1 : Int) + n2 + n3) = (n1 : Int) + n2 + n3 := wrapi (by omega) (by omega)
  have p1 : ¬ (5000 : Int) < (n1 : Int) + n2 + n3 := by omega
  have p2 : ¬ cap < 0 := by omega
  have p3 : ¬ 1000 < cap := by omega
  have p4 : ¬ cap < (n1 : Int) := by omega
  have HLE := hide (show n2 + n3 ≤ 5000 by omega)
  have g5 : ¬ (0 : Int) < (n2 : Int) := by omega
  have g8 : ¬ (0 : Int) < (n3 : Int) := by omega
  clear hy
  clear x1 x2 x3 x4 x5 x6
  have HB := hide ((Below.refl w.heap.size w).alloc (Nat.le_refl _) (.cells #[.int .i64 cap, .slice a1 n1 c1, .bool closed, .slice a2 n2 c2, .slice a3 n3 c3] 25) |>.alloc (by simp) (.cells #[.int .i64 0, .int .i64 0] 30))
  have HQ := hide (keep_alloc (new_block w (.cells #[.int .i64 cap, .slice a1 n1 c1, .bool closed, .slice a2 n2 c2, .slice a3 n3 c3] 25)) (.cells #[.int .i64 0, .int .i64 0] 30))
  have HR := hide (new_block (w.alloc (.cells #[.int .i64 cap, .slice a1 n1 c1, .bool closed, .slice a2 n2 c2, .slice a3 n3 c3] 25)) (.cells #[.int .i64 0, .int .i64 0] 30))
  rw [World.size_alloc] at HR
  obtain ⟨⟨p0, p1, p2, p3, p4⟩, -, pl⟩ := block5 (unhide HQ)
  obtain ⟨r0, r1, f0, f1, rl⟩ := block2 (unhide HR)
  go_enter Try.func14, Try.ntmps14
  go_upto_region 1 with fail
  obtain ⟨W0, eW⟩ : ∃ W, (w.alloc (.cells #[.int .i64 cap, .slice a1 n1 c1, .bool closed, .slice a2 n2 c2, .slice a3 n3 c3] 25)).alloc (.cells #[.int .i64 0, .int .i64 0] 30) = W := ⟨_, rfl⟩
  rw [eW] at HB HQ HR p0 p1 p2 p3 p4 pl r0 r1 f0 f1 rl ⊢
  clear eW
  go_upto_region 13 with fail
  have HSS : Hid (∀ W, Below W0.heap.size W0 W → (W.cell? ⟨w.heap.size, 3, none⟩ = some (.slice a2 n2 c2) ∧ W.cell? ⟨w.heap.size, 4, none⟩ = some (.slice a3 n3 c3)) ∧ Below W0.heap.size W0 W) := fun W hW => by
    obtain ⟨⟨-, -, -, k3, k4⟩, -, -⟩ := block5 (keep_below (unhide HQ) hW)
    exact ⟨⟨k3, k4⟩, hW⟩
  clear p0 p1 p2 p3 p4 r0 r1 f0 f1
  obtain ⟨⟨p3, p4⟩, -⟩ := unhide HSS _ (Below.refl _ _)
  go_region_held3 (fun W => (W.cell? ⟨w.heap.size, 3, none⟩ = some (.slice a2 n2 c2) ∧ W.cell? ⟨w.heap.size, 4, none⟩ = some (.slice a3 n3 c3)) ∧ Below W0.heap.size W0 W)
    (first | with_reducible exact unhide HSS _ (Below.refl _ _).drew | with_reducible exact unhide HSS _ (unhide HX1) | with_reducible exact unhide HSS _ (unhide HX2))
    (first
     | (refine step_append kp rfl (.const (.slice none 0 0)) (.tmp 72) rfl W0.heap.size _ [] rfl (own_nil _ _) (.slice a2 n2 c2) ss rfl (IsL.below (IsL.below (unhide HS) (unhide HB)) (by first | exact (Below.refl _ _).drew | exact Below.refl _ _)) n2 (by rw [unhide HN2]; simp) h2 (Nat.le_refl _) ?_; intro a5 c5 w5 ho5 hg5; have HO5 := hide (own_nil_append ho5); have HX1 : Hid (Below W0.heap.size W0 w5) := Below.grown (by first | exact (Below.refl _ _).drew | exact Below.refl _ _) hg5 (Nat.le_refl _) (fun k hk => by cases hk); clear ho5 hg5)
     | (refine step_append kp rfl (.tmp 73) (.tmp 75) rfl W0.heap.size _ ss rfl (unhide HO5) (.slice a3 n3 c3) gs rfl (IsL.below (IsL.below (unhide HG) (unhide HB)) (unhide HX1)) (n2 + n3) (by rw [unhide HN2, unhide HN3]) (by show (n2 + n3) * 24 ≤ 140737488355328; have := unhide HLE; omega) (unhide HX1).size ?_; intro a6 c6 w6 ho6 hg6; have HO6 := hide ho6; have HX2 : Hid (Below W0.heap.size W0 w6) := Below.grown (unhide HX1) hg6 (unhide HX1).size (fun k hk => ((unhide HO5).lt k hk).1); clear ho6 hg6))
  all_goals (
    clear p3 p4
    have HQ6 := hide (keep_below (unhide HQ) (unhide HX2)); have HR6 := hide (keep_below (unhide HR) (unhide HX2)); have HB6 := hide (Below.next (unhide HB) (unhide HX2) (Nat.le_refl _))
    have HA6 := hide ((unhide HO6).isl.opens kp (by rw [List.length_append, unhide HN2, unhide HN3]))
    rw [unhide HAL] at HA6
    have HG6 : Hid (0 < n3 → ∃ b off, a3 = some ⟨b, off, none⟩ ∧ b < w6.heap.size ∧ Lies KP w6 b off gs) := fun hn => by
      obtain ⟨b, off, e, hb, hl⟩ := unhide HGO hn
      exact ⟨b, off, e, Nat.lt_of_lt_of_le hb (unhide HB6).size, hl.below (unhide HB6) hb⟩
    clear HGO HO6 HO5 HX1 HX2 HSS HS HG HQ HR HB pl rl
    obtain ⟨⟨p0, p1, p2, p3, p4⟩, -, pl⟩ := block5 (unhide HQ6)
    obtain ⟨r0, r1, f0, f1, rl⟩ := block2 (unhide HR6)
    obtain ⟨n, hn⟩ : ∃ n, n2 + n3 = n := ⟨_, rfl⟩
    rw [hn] at HA6 HLN
    rw [hn]
    have hnn : n ≤ 5000 := by rw [← hn]; exact unhide HLE
    have hn2 : n2 ≤ n := by omega
    have HNN := hide hn
    clear hn
    go_wp2_with fail
    go_loopw [4] (fun i wr => ∃ j : Nat, j ≤ n ∧ i = .int .i64 j ∧ Below w6.heap.size w6 wr ∧ FR = postsP n2 j (tasks (al.take j)) (al.drop j)) (fun i _ => n - (intOf i).toNat)
    case atStart => exact ⟨0, Nat.zero_le _, rfl, Below.refl _ _, by rw [← unhide HF]; simp [tasks]⟩
    case round =>
      obtain ⟨j, hj, rfl, hwr, hFj⟩ := hrel
      obtain ⟨w7, hw7⟩ : ∃ W, W = wr := ⟨_, rfl⟩
      subst hw7
      have HW7 := hide hwr
      have HQ8 := hide (keep_below (unhide HQ6) hwr); have HR8 := hide (keep_below (unhide HR6) hwr); have HB8 := hide (Below.next (unhide HB6) hwr (Nat.le_refl _))
      clear HQ6 HR6 HB6 p0 p1 p2 p3 p4 pl r0 r1 f0 f1 rl
      have HQ6 := HQ8; have HR6 := HR8; have HB6 := HB8
      clear HQ8 HR8 HB8
      obtain ⟨⟨p0, p1, p2, p3, p4⟩, -, pl⟩ := block5 (unhide HQ6)
      obtain ⟨r0, r1, f0, f1, rl⟩ := block2 (unhide HR6)
      by_cases hlt : j < n
      · exfalso; have := unhide HNN; omega
      · have hF0 : FR = (0, 0) := by
          rw [hFj, List.drop_eq_nil_of_le (by rw [unhide HLN]; omega)]
          rfl
        have HR1 : Hid ((if q = true then ((5, 2) : Int × Int) else (0, 0)) = R) := by have hR := unhide HRR; rw [hF0, if_neg (by simp)] at hR; exact hR
        clear HRR hF0
        have HGG : Hid (0 < n3 → ∃ b off, a3 = some ⟨b, off, none⟩ ∧ Lies KP w7 b off gs) := fun hn => by
          obtain ⟨b, off, e, hb, hl⟩ := unhide HG6 hn
          exact ⟨b, off, e, hl.below hwr hb⟩
        clear hFj HF HA6 HG6 hwr
        go_wp2_with fail
        go_loopw [7] (fun i wr2 => ∃ j : Nat, j ≤ n3 ∧ i = .int .i64 j ∧ wr2 = w7 ∧ ∀ i, i < j → valuedP (pAt gs i) = false) (fun i _ => n3 - (intOf i).toNat)
        case atStart => exact ⟨0, Nat.zero_le _, rfl, rfl, fun i hi => by omega⟩
        case round =>
          obtain ⟨j, hj, rfl, hwr, hne⟩ := hrel
          subst hwr
          have HNE := hide hne
          clear hne
          by_cases hlt : j < n3
          · exfalso; omega
          · have hq : q = false := by
              cases q with
              | false => rfl
              | true =>
                obtain ⟨i, hi, he⟩ := (unhide HAG).1 rfl
                rw [unhide HNE i (by omega)] at he
                cases he
            have hR := unhide HR1
            rw [hq, if_neg (by simp)] at hR
            subst hR
            go_wp2_with fail
            exact bodyPost_ret (v := .agg #[.int .i64 0, .int .i64 0]) (by simp [results, Try.results14, go_sem, r0, r1]) rfl ⟨rfl, below_set2 (unhide HB6) (Nat.le_succ _) _ _⟩
  )

theorem pfault_any (w : World) (v : Value) (P : Pp) (h : IsPipe w v P) (hs : Short P) :
    Calls Try.prog 14 #[v] w fun e w' => e = .returned (faultV (pipeF P)) ∧ Below w.heap.size w w' := by
  by_cases hw : wholeC P.cap P.items.length P.ss.length P.gs.length P.closed = 0
  · by_cases hy : 0 < P.ss.length
    · exact pf_senders w v P h hs hw hy
    · by_cases hz : 0 < P.gs.length
      · exact pf_getters w v P h hs hw hy hz
      · exact pf_none w v P h hs hw hy hz
  · have e : pipeF P = (wholeC P.cap P.items.length P.ss.length P.gs.length P.closed, 0) := by unfold pipeF; rw [if_pos hw]
    rw [e]
    exact pf_whole w v P h hs hw
end Go.Proofs.Ytijogcjocandcaa
