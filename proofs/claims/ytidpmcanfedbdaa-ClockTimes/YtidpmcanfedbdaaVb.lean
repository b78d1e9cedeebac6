/-
  taskmillref.Passed.
-/
import Derived.Test.YtidpmcanfedbdaaVa
namespace Go.Proofs.Ytidpmcanfedbdaa
open Go.RowKit

/-- A time that a clock may show. -/
def Small (E : Int) : Prop := E ≤ 1000000000
/-- The slice v reads as the list zs; its block is older than B, or one of alarms. -/
def Lo (B : Nat) (w : World) (v : Value) (zs : List Al) : Prop := IsL KA w v zs ∧ (0 < zs.length → ∀ k, v.ownBlock = some k → k < B ∨ ∃ cur, w.heap[k]? = some (.cells cur 42 (0, 0)))
theorem Lo.lenw {B : Nat} {w : World} {a : Option Addr} {n c : Nat} {zs : List Al} (h : Lo B w (.slice a n c) zs) (hl : zs.length = n) : Lo B w (.slice a zs.length c) zs := by rw [hl]; exact h
theorem Lo.lt {B : Nat} {w : World} {v : Value} {zs : List Al} (h : Lo B w v zs) (h0 : 0 < zs.length) : ∀ k, v.ownBlock = some k → k < w.heap.size := h.1.old ka h0
theorem Lo.keep {B : Nat} {w w' : World} {v : Value} {zs : List Al} (h : Lo B w v zs) (hk : 0 < zs.length → ∀ k, v.ownBlock = some k → w'.heap[k]? = w.heap[k]?) : Lo B w' v zs := by
  by_cases h0 : 0 < zs.length
  · exact ⟨h.1.keep ka (hk h0), fun _ k e => (h.2 h0 k e).imp id fun ⟨cur, hc⟩ => ⟨cur, (hk h0 k e).trans hc⟩⟩
  · obtain rfl : zs = [] := List.eq_nil_of_length_eq_zero (by omega)
    exact ⟨isl_empty h.1, fun h1 => absurd h1 (by simp)⟩
theorem Lo.below {B : Nat} {w w' : World} {v : Value} {zs : List Al} (h : Lo B w v zs) (hb : Below w.heap.size w w') : Lo B w' v zs := h.keep fun h0 k e => hb.block k (h.lt h0 k e)
theorem Lo.ne {B : Nat} {w : World} {v : Value} {zs : List Al} (h : Lo B w v zs) {R : Nat} {arr : Array Value} {t : TypeId} {f : Nat × Nat} (hR : w.heap[R]? = some (.cells arr t f)) (ht : t ≠ 42) (hB : B ≤ R) : 0 < zs.length → ∀ k, v.ownBlock = some k → k ≠ R := fun h0 k e => by
  rintro rfl
  rcases h.2 h0 k e with h1 | ⟨cur, hc⟩
  · omega
  · rw [hc] at hR
    cases hR
    exact ht rfl
theorem Lo.grown {B : Nat} {w w' : World} {v v' : Value} {zs : List Al} {td : List (Int × Int)} (h : Lo B w v zs) (ho : Own KO B w v' td) (hg : w.grownBy w' v'.ownBlock) : Lo B w' v zs := h.keep fun h0 k e => grown_block hg (h.lt h0 k e) fun j hj => by
  rintro rfl
  rcases h.2 h0 j e with h1 | ⟨cur, hc⟩
  · have := (ho.lt j hj).1; omega
  · exact Own.ne ho hc (by decide) j hj rfl
theorem Own.lo {B B' : Nat} {w : World} {v : Value} {zs : List Al} (h : Own KA B' w v zs) : Lo B w v zs := ⟨h.isl, fun _ k e => Or.inr ((h.prt).2 k e).2⟩
theorem IsL.lo {w : World} {v : Value} {zs : List Al} (h : IsL KA w v zs) : Lo w.heap.size w v zs := ⟨h, fun h0 k e => Or.inl (h.old ka h0 k e)⟩
theorem Lo.drop1 {B : Nat} {w : World} {g off n c : Nat} {x : Al} {zs : List Al} (h : Lo B w (.slice (some ⟨g, off, none⟩) n c) (x :: zs)) {A : Option Addr} (hA : A = if c = 1 then some ⟨g, off, none⟩ else some ⟨g, off + 1 * 4, none⟩) : Lo B w (.slice A (n - 1) (c - 1)) zs := by
  have hl := h.1.len
  rw [List.length_cons] at hl
  refine ⟨h.1.drop_if ka (p := 1) (by omega) hA, fun _ k e => h.2 (by simp) k ?_⟩
  by_cases e1 : c = 1
  · rw [if_pos e1] at hA; subst hA; exact e
  · rw [if_neg e1] at hA; subst hA; exact e

set_option maxRecDepth 100000 in
set_option maxHeartbeats 2000000 in
theorem passed_any (w : World) (B : Nat) (a0 : Option Addr) (c0 : Nat) (now next : Int) (xs : List Al) (ticks : Int) (h : Lo B w (.slice a0 xs.length c0) xs) (hB : B ≤ w.heap.size) (gd : Good now next xs) (ht0 : 0 ≤ ticks) (ht1 : ticks ≤ 1000000000) :
    Calls Try.prog 21 #[.agg #[.int .i64 now, .int .i64 next, .slice a0 xs.length c0], .int .i64 ticks] w fun e w' => (∀ nx zs td, Small (now + ticks) → runL (now + ticks) 5000 next xs [] = some (nx, zs, td) → ∃ av cv a c, e = .returned (.tuple #[.agg #[.int .i64 (now + ticks), .int .i64 nx, .slice av zs.length cv], .slice a td.length c, .bool true]) ∧ Lo B w' (.slice av zs.length cv) zs ∧ Own KO w.heap.size w' (.slice a td.length c) td) ∧ (¬ Small (now + ticks) ∨ runL (now + ticks) 5000 next xs [] = none → ∃ n1 n2 av m cv, e = .returned (.tuple #[.agg #[.int .i64 n1, .int .i64 n2, .slice av m cv], .slice none 0 0, .bool false])) ∧ Below w.heap.size w w' := by
  have gl := gd.len; have gn0 := gd.n0; have gn1 := gd.n1
  obtain ⟨R, eR⟩ : ∃ R, runL (now + ticks) 5000 next xs [] = R := ⟨_, rfl⟩
  rw [eR]
  obtain ⟨E, eE⟩ : ∃ E, now + ticks = E := ⟨_, rfl⟩
  have hw1 : IntKind.i64.wrap (now + ticks) = E := (wrapi (by omega) (by omega)).trans eE
  rw [eE] at eR ⊢
  obtain ⟨n, en⟩ : ∃ n, xs.length = n := ⟨_, rfl⟩
  rw [en] at gl h ⊢
  have HN := hide en; have HR := hide eR; have HGD := hide gd; have HL0 := hide h
  clear h en eR eE gd
  obtain ⟨W0, e0, hB, k0, k1⟩ := two_new w (.cells #[.int .i64 now, .int .i64 next, .slice a0 n c0] 24) (.cells #[.int .i64 0, .int .i64 0, .slice none 0 0] 24)
  have HX := hide hB; have HP := hide k0; have HQ := hide k1; have HE := hide e0
  clear hB k0 k1 e0
  go_enter Try.func21, Try.ntmps21
  go_upto_region 1 with fail
  rw [unhide HE]
  clear HE
  have HLL := hide ((unhide HL0).below (unhide HX))
  obtain ⟨⟨p0, p1, p2⟩, ⟨pf0, pf1, pf2⟩, pl⟩ := block3 (unhide HP)
  obtain ⟨⟨q0, q1, q2⟩, ⟨qf0, qf1, qf2⟩, ql⟩ := block3 (unhide HQ)
  by_cases hE : 1000000000 < E
  · go_wp2_with fail
    refine bodyPost_ret (v := .tuple #[.agg #[.int .i64 now, .int .i64 next, .slice a0 n c0], .slice none 0 0, .bool false]) (by simp [results, Try.results21, go_sem, q0, q1, q2]) rfl ⟨fun nx zs td h1 _ => by unfold Small at h1; omega, fun _ => ⟨_, _, _, _, _, rfl⟩, putL_below (unhide HX) (by omega)⟩
  go_wp2_with fail
  go_loopw [7] (fun i W => ∃ (nx : Int) (zs : List Al) (td : List (Int × Int)) (a : Option Addr) (k c : Nat) (av : Option Addr) (zn cv : Nat), i = .slice a k c ∧ k ≤ 5000 ∧ Hid (td.length = k) ∧ Hid (zs.length = zn) ∧ Hid (Own KO w.heap.size W (.slice a k c) td) ∧ Hid (W.heap[w.heap.size]? = some (.cells #[.int .i64 now, .int .i64 nx, .slice av zn cv] 24 (0, 0))) ∧ Hid (Lo B W (.slice av zn cv) zs) ∧ Hid (runL E (5000 - k) nx zs td = R) ∧ Hid (Good now nx zs) ∧ Hid (W.heap[w.heap.size + 1]? = some (.cells #[.int .i64 0, .int .i64 0, .slice none 0 0] 24 (0, 0))) ∧ Hid (Below w.heap.size w W)) (fun i _ => 5001 - lenV i)
  case atStart => exact ⟨next, xs, [], none, 0, 0, a0, n, c0, rfl, Nat.zero_le _, rfl, HN, own_nil _ _, HP, HLL, HR, HGD, HQ, HX⟩
  case round =>
    obtain ⟨nx, zs, td, a, k, c, av, zn, cv, rfl, hk, HTL, HZL, HO, HY, HLO, HRR, HGO, HQr, HXr⟩ := hrel
    clear p0 p1 p2 pf0 pf1 pf2 pl q0 q1 q2 qf0 qf1 qf2 ql HR HGD HLL
    obtain ⟨⟨p0, p1, p2⟩, ⟨pf0, pf1, pf2⟩, pl⟩ := block3 (unhide HY)
    obtain ⟨⟨q0, q1, q2⟩, ⟨qf0, qf1, qf2⟩, ql⟩ := block3 (unhide HQr)
    cases zs with
    | nil =>
      have HRE : Hid (R = some (nx, [], td)) := by have := unhide HRR; rw [runL_nil] at this; exact this.symm
      obtain rfl : zn = 0 := (unhide HZL).symm
      go_wp2_with fail
      refine bodyPost_ret (v := .tuple #[.agg #[.int .i64 E, .int .i64 nx, .slice av 0 cv], .slice a k c, .bool true]) (by simp [results, Try.results21, go_sem, q0, q1, q2]) rfl ⟨fun nx' zs' td' _ he => ?_, fun he => ?_, ?_⟩
      · rw [unhide HRE] at he
        cases he
        refine ⟨av, cv, a, c, by rw [unhide HTL]; first | rfl | rw [unhide HZL], ?_, ?_⟩
        · exact ((unhide HLO).keep (fun h0 j hj => putL_keep (show j ≠ w.heap.size + 1 from Lo.ne (unhide HLO) (unhide HQr) (by decide) (by omega) h0 j hj))).lenw (unhide HZL)
        · rw [unhide HTL]
          exact putL_own (unhide HO) (unhide HQr) (by decide)
      · rcases he with he | he
        · exact absurd (show Small E by unfold Small; omega) he
        · rw [unhide HRE] at he
          cases he
      · exact putL_below (unhide HXr) (by omega)
    | cons x r =>
      obtain ⟨i, e, u, y⟩ := x
      have hzn : 0 < zn := by rw [← unhide HZL]; simp
      have z1 : (0 : Int) < (zn : Int) := by omega
      have z2 : (1 : Int) ≤ (zn : Int) := by omega
      have HRL : Hid (r.length = zn - 1) := hide (by have := unhide HZL; rw [List.length_cons] at this; omega)
      have hxr := (oor_iff now nx (i, e, u, y)).1 ((unhide HGO).rng _ (by simp))
      simp only at hxr
      have hnx0 := (unhide HGO).n2; have hnx1 := (unhide HGO).n3
      have hz5 : zn ≤ 5000 := by have := (unhide HGO).len; rw [unhide HZL] at this; exact this
      obtain ⟨gg, of, eav⟩ : ∃ gg of, av = some ⟨gg, of, none⟩ := by
        obtain ⟨b, o, c', ev, -, -⟩ := (unhide HLO).1.at ka (by simp)
        rw [unhide HZL] at ev
        cases ev
        exact ⟨b, o, rfl⟩
      subst eav
      have HLC : Hid (∀ W, IsL KA W (.slice (some ⟨gg, of, none⟩) zn cv) ((i, e, u, y) :: r) → W.cell? ⟨gg, of, none⟩ = some (.int .i64 i) ∧ W.cell? ⟨gg, of + 1, none⟩ = some (.int .i64 e) ∧ W.cell? ⟨gg, of + 2, none⟩ = some (.int .i64 u) ∧ W.cell? ⟨gg, of + 3, none⟩ = some (.int .i64 y)) := fun W hW => by
        obtain ⟨b, o, c', ev, hb, hli⟩ := hW.at ka (by simp)
        rw [unhide HZL] at ev
        cases ev
        have := hli.alarm (j := 0) (by simp) (t := i) (c := e) (u := u) (y := y) rfl
        simpa only [Nat.zero_mul, Nat.add_zero] using this
      obtain ⟨l0, l1, l2, l3⟩ := unhide HLC _ (unhide HLO).1
      by_cases he : e ≤ E
      · skip
        by_cases hc1 : cv = 1
        · have hce : (cv = 1) = True := eq_true hc1
          have HAE : Hid (some ⟨gg, of, none⟩ = if cv = 1 then some (⟨gg, of, none⟩ : Addr) else some ⟨gg, of + 1 * 4, none⟩) := hide (by rw [if_pos hc1])
          clear hc1
          go_upto_region 7 with fail
          have HO1 := hide ((unhide HO).below ((Below.refl _ _).alloc (Nat.le_refl _) (.cells #[.int .i64 i, .int .i64 e, .int .i64 u, .int .i64 y] 42))); have HY1 := hide (keep_alloc (unhide HY) (.cells #[.int .i64 i, .int .i64 e, .int .i64 u, .int .i64 y] 42)); have HQ1 := hide (keep_alloc (unhide HQr) (.cells #[.int .i64 i, .int .i64 e, .int .i64 u, .int .i64 y] 42)); have HLO1 := hide ((unhide HLO).below ((Below.refl _ _).alloc (Nat.le_refl _) (.cells #[.int .i64 i, .int .i64 e, .int .i64 u, .int .i64 y] 42))); have HX1 := hide ((unhide HXr).alloc (unhide HXr).size (.cells #[.int .i64 i, .int .i64 e, .int .i64 u, .int .i64 y] 42)); have HZ1 := hide (new_block wr (.cells #[.int .i64 i, .int .i64 e, .int .i64 u, .int .i64 y] 42))
          have hZl : w.heap.size + 1 < wr.heap.size := size_of (unhide HQr)
          have hgZ : gg < wr.heap.size := (unhide HLO).lt (by simp) gg rfl
          obtain ⟨Z, eZ⟩ : ∃ X, wr.heap.size = X := ⟨_, rfl⟩
          obtain ⟨W1, e1⟩ : ∃ X, wr.alloc (.cells #[.int .i64 i, .int .i64 e, .int .i64 u, .int .i64 y] 42) = X := ⟨_, rfl⟩
          rw [eZ, e1] at HZ1; rw [e1] at HO1 HY1 HQ1 HLO1 HX1; rw [eZ] at hZl hgZ; rw [eZ, e1]
          clear eZ e1 p0 p1 p2 pf0 pf1 pf2 pl q0 q1 q2 qf0 qf1 qf2 ql l0 l1 l2 l3 HO HY HQr HLO HXr
          have HBa : Hid (Below W1.heap.size W1 (W1.alloc (.cells #[.int .i64 e, .int .i64 i] 52))) := (Below.refl _ _).alloc (Nat.le_refl _) _
          have HOa := hide ((unhide HO1).below (unhide HBa)); have HYa := hide (keep_below (unhide HY1) (unhide HBa)); have HQa := hide (keep_below (unhide HQ1) (unhide HBa)); have HLa := hide ((unhide HLO1).below (unhide HBa)); have HXa := hide (Below.next (unhide HX1) (unhide HBa) (Nat.le_refl _)); have HZa := hide (keep_below (unhide HZ1) (unhide HBa)); have HIa : Hid (IsL KO (W1.alloc (.cells #[.int .i64 e, .int .i64 i] 52)) (.slice (some ⟨W1.heap.size, 0, none⟩) 1 1) [(e, i)]) := isl_one ko W1 (e, i)
          obtain ⟨⟨z0, z1', z2', z3⟩, -, zl⟩ := block4 (unhide HZ1)
          go_upto_region 8 with (at_builtin; refine wpList_append ko rfl _ _ rfl w.heap.size _ td rfl (unhide HOa) _ [(e, i)] rfl (unhide HIa) (k + 1) (by simp [unhide HTL]) (by simp [KO]; omega) (unhide HXa).size ?_; intro a2 c2 w2 ho2 hg2; have HO2 := hide ho2; have HY2 := hide (keep_grown (unhide HYa) hg2 (fun j hj => Own.ne (unhide HOa) (unhide HYa) (by decide) j hj)); have HQ2 := hide (keep_grown (unhide HQa) hg2 (fun j hj => Own.ne (unhide HOa) (unhide HQa) (by decide) j hj)); have HZ2 := hide (keep_grown (unhide HZa) hg2 (fun j hj => Own.ne (unhide HOa) (unhide HZa) (by decide) j hj)); have HL2 := hide (Lo.grown (unhide HLa) ((unhide HOa).base hB) hg2); have HX2 := hide ((unhide HXa).grown hg2 (unhide HXa).size (fun j hj => ((unhide HOa).lt j hj).1)); clear ho2 hg2 z0 z1' z2' z3 zl)
          clear HOa HYa HQa HLa HXa HZa HIa HBa HO1 HY1 HQ1 HLO1 HX1 HZ1
          have HLR := hide ((unhide HL2).drop1 (A := some ⟨gg, of, none⟩) (unhide HAE))
          have HNE := hide (Lo.ne (unhide HL2) (unhide HY2) (by decide) hB (by simp) gg rfl)
          obtain ⟨⟨p0, p1, p2⟩, ⟨pf0, pf1, pf2⟩, pl⟩ := block3 (unhide HY2)
          go_upto_region 9 with fail
          clear p0 p1 p2 pf0 pf1 pf2 pl
          have HO3 := hide ((unhide HO2).keep (fun j hj => Below.heap_setCell w2 ⟨w.heap.size, 2, none⟩ (.slice (some ⟨gg, of, none⟩) (zn - 1) (cv - 1)) j (by have := Own.ne (unhide HO2) (unhide HY2) (by decide) j hj; simpa using this))); have HY3 := hide (set_block3 (i := 2) (y := .slice (some ⟨gg, of, none⟩) (zn - 1) (cv - 1)) (unhide HY2)); have HQ3 := hide (keep_set (g := w.heap.size) (o := 2) (v := .slice (some ⟨gg, of, none⟩) (zn - 1) (cv - 1)) (unhide HQ2) (by omega)); have HZ3 := hide (keep_set (g := w.heap.size) (o := 2) (v := .slice (some ⟨gg, of, none⟩) (zn - 1) (cv - 1)) (unhide HZ2) (by omega)); have HX3 := hide (below_set (i := 2) (unhide HX2) (Nat.le_refl _) (.slice (some ⟨gg, of, none⟩) (zn - 1) (cv - 1))); have HL3 := hide ((unhide HLR).keep (w' := w2.setCell ⟨w.heap.size, 2, none⟩ (.slice (some ⟨gg, of, none⟩) (zn - 1) (cv - 1))) (fun _ j hj => Below.heap_setCell w2 ⟨w.heap.size, 2, none⟩ (.slice (some ⟨gg, of, none⟩) (zn - 1) (cv - 1)) j (by have h1 : j = gg := (Option.some.inj hj).symm; have := unhide HNE; subst h1; simpa using this)))
          simp only [List.setIfInBounds_toArray, List.set_cons_zero, List.set_cons_succ] at HY3
          obtain ⟨W3, e3⟩ : ∃ X, w2.setCell ⟨w.heap.size, 2, none⟩ (.slice (some ⟨gg, of, none⟩) (zn - 1) (cv - 1)) = X := ⟨_, rfl⟩
          rw [e3] at HO3 HY3 HQ3 HZ3 HX3 HL3 ⊢
          clear e3 HO2 HY2 HQ2 HZ2 HX2 HL2 HLR
          obtain ⟨⟨p0, p1, p2⟩, ⟨pf0, pf1, pf2⟩, pl⟩ := block3 (unhide HY3)
          obtain ⟨⟨z0, z1', z2', z3⟩, ⟨zf0, zf1, zf2, zf3⟩, zl⟩ := block4 (unhide HZ3)
          by_cases hk5 : k = 5000
          · have j1 : (5000 : Int) < (k : Int) + 1 := by omega
            have HRE : Hid (R = none) := by have := unhide HRR; rw [hk5, Nat.sub_self, runL_zero he] at this; exact this.symm
            clear hk5
            obtain ⟨⟨q0, q1, q2⟩, ⟨qf0, qf1, qf2⟩, ql⟩ := block3 (unhide HQ3)
            go_wp2_with fail
            refine bodyPost_ret (v := .tuple #[.agg #[.int .i64 now, .int .i64 nx, .slice (some ⟨gg, of, none⟩) (zn - 1) (cv - 1)], .slice none 0 0, .bool false]) (by simp [results, Try.results21, go_sem, q0, q1, q2]) rfl ⟨fun nx' zs' td' _ he' => ?_, fun _ => ⟨_, _, _, _, _, rfl⟩, putL_below (unhide HX3) (by omega)⟩
            rw [unhide HRE] at he'
            cases he'
          have j1 : ¬ (5000 : Int) < (k : Int) + 1 := by omega
          by_cases hu : u = 0
          · have j2 : ¬ (0 : Int) < u := by omega
            have HRN : Hid (runL E (5000 - (k + 1)) nx r (td ++ [(e, i)]) = R) := by
              have := unhide HRR
              have ho : offL nx (i, e, u, y) r = (nx, r) := by unfold offL; rw [if_pos hu]
              rw [show 5000 - k = (5000 - (k + 1)) + 1 by omega, runL_go he (fun hh => hh.1 hu), ho] at this
              exact this
            have HGO2 : Hid (Good now nx r) := (unhide HGO).sub (List.sublist_cons_self _ _)
            clear hu
            go_wp2_with fail
            go_roundw
            case rel => exact ⟨nx, r, td ++ [(e, i)], _, k + 1, c2, _, zn - 1, cv - 1, rfl, by omega, hide (by rw [List.length_append, unhide HTL]; rfl), HRL, HO3, HY3, HL3, HRN, HGO2, HQ3, HX3⟩
            case measure => simp [lenV]; omega
          · have j2 : (0 : Int) < u := by omega
            by_cases hmu : nx = 1000000000
            · have HRE : Hid (R = none) := by have := unhide HRR; rw [runL_much he ⟨hu, hmu⟩] at this; exact this.symm
              subst hmu
              obtain ⟨⟨q0, q1, q2⟩, ⟨qf0, qf1, qf2⟩, ql⟩ := block3 (unhide HQ3)
              go_wp2_with fail
              refine bodyPost_ret (v := .tuple #[.agg #[.int .i64 now, .int .i64 1000000000, .slice (some ⟨gg, of, none⟩) (zn - 1) (cv - 1)], .slice none 0 0, .bool false]) (by simp [results, Try.results21, go_sem, q0, q1, q2]) rfl ⟨fun nx' zs' td' _ he' => ?_, fun _ => ⟨_, _, _, _, _, rfl⟩, putL_below (unhide HX3) (by omega)⟩
              rw [unhide HRE] at he'
              cases he'
            have j3 : (nx == 1000000000) = false := by simpa using hmu
            have hof : offL nx (i, e, u, y) r = (nx + 1, insL (i, e + u, u, nx) r) := by unfold offL; rw [if_neg hu]
            have hgo := (unhide HGO).off he (by omega) (fun hh => hmu hh.2)
            rw [hof] at hgo
            have HGO2 := hide hgo
            have HRN : Hid (runL E (5000 - (k + 1)) (nx + 1) (insL (i, e + u, u, nx) r) (td ++ [(e, i)]) = R) := by
              have := unhide HRR
              rw [show 5000 - k = (5000 - (k + 1)) + 1 by omega, runL_go he (fun hh => hmu hh.2), hof] at this
              exact this
            have hw5 : IntKind.i64.wrap (e + u) = e + u := wrapi (by omega) (by omega)
            clear hgo hof hu hmu
            go_upto_region 15 with fail
            clear p0 p1 p2 pf0 pf1 pf2 pl z0 z1' z2' z3 zf0 zf1 zf2 zf3 zl
            have HO4 := hide ((unhide HO3).keep (fun j hj => Below.heap_setCell W3 ⟨Z, 1, none⟩ (.int .i64 (e + u)) j (by have := Own.ne (unhide HO3) (unhide HZ3) (by decide) j hj; simpa using this))); have HZ4 := hide (set_block4 (i := 1) (y := .int .i64 (e + u)) (unhide HZ3)); have HQ4 := hide (keep_set (g := Z) (o := 1) (v := .int .i64 (e + u)) (unhide HQ3) (by omega)); have HY4 := hide (keep_set (g := Z) (o := 1) (v := .int .i64 (e + u)) (unhide HY3) (by omega)); have HX4 := hide (below_set (i := 1) (unhide HX3) (show w.heap.size ≤ Z by omega) (.int .i64 (e + u))); have HL4 := hide ((unhide HL3).keep (w' := W3.setCell ⟨Z, 1, none⟩ (.int .i64 (e + u))) (fun _ j hj => Below.heap_setCell W3 ⟨Z, 1, none⟩ (.int .i64 (e + u)) j (by have h1 : j = gg := (Option.some.inj hj).symm; subst h1; simp; omega)))
            simp only [List.setIfInBounds_toArray, List.set_cons_zero, List.set_cons_succ] at HZ4
            obtain ⟨W4, e4⟩ : ∃ X, W3.setCell ⟨Z, 1, none⟩ (.int .i64 (e + u)) = X := ⟨_, rfl⟩
            rw [e4] at HO4 HY4 HQ4 HZ4 HX4 HL4 ⊢
            clear e4 HO3 HY3 HQ3 HZ3 HX3 HL3
            obtain ⟨⟨p0, p1, p2⟩, ⟨pf0, pf1, pf2⟩, pl⟩ := block3 (unhide HY4)
            obtain ⟨⟨z0, z1', z2', z3⟩, ⟨zf0, zf1, zf2, zf3⟩, zl⟩ := block4 (unhide HZ4)
            have HWA := hide (withAlarm_any W4 (.agg #[.int .i64 now, .int .i64 nx, .slice (some ⟨gg, of, none⟩) (zn - 1) (cv - 1)]) now nx r i (e + u) u y ⟨_, rfl, (unhide HL4).1⟩ (by rw [unhide HRL]; omega) hnx0 hnx1)
            rw [unhide HRL, show zn - 1 + 1 = zn by omega] at HWA
            have HIL : Hid ((insL (i, e + u, u, nx) r).length = zn) := hide (by rw [ins_len, unhide HRL]; omega)
            go_wp2_with (go_at_call 19; refine (unhide HWA).mono ?_; rintro rr w5 ⟨a5, c5, rfl, ho5, hb5⟩; have HL5 := hide (ho5.lo (B := B)); have HO5 := hide ((unhide HO4).below hb5); have HY5 := hide (keep_below (unhide HY4) hb5); have HQ5 := hide (keep_below (unhide HQ4) hb5); have HX5 := hide (Below.next (unhide HX4) hb5 (Nat.le_refl _)); clear ho5 hb5 p0 p1 p2 pf0 pf1 pf2 pl z0 z1' z2' z3 zf0 zf1 zf2 zf3 zl; obtain ⟨⟨p0, p1, p2⟩, ⟨pf0, pf1, pf2⟩, pl⟩ := block3 (unhide HY5))
            go_roundw
            case rel =>
              refine ⟨nx + 1, insL (i, e + u, u, nx) r, td ++ [(e, i)], _, k + 1, c2, a5, zn, c5, rfl, by omega, hide (by rw [List.length_append, unhide HTL]; rfl), HIL, ?_, ?_, ?_, HRN, HGO2, ?_, ?_⟩
              · exact putL_own (unhide HO5) (unhide HY5) (by decide)
              · exact putL_new (unhide HY5)
              · exact (unhide HL5).keep (fun h0 j hj => putL_keep (Lo.ne (unhide HL5) (unhide HY5) (by decide) hB h0 j hj))
              · exact putL_keeps (unhide HQ5) (by omega)
              · exact putL_below (unhide HX5) (Nat.le_refl _)
            case measure => simp [lenV]; omega
        · have HAE : Hid (some ⟨gg, of + 4, none⟩ = if cv = 1 then some (⟨gg, of, none⟩ : Addr) else some ⟨gg, of + 1 * 4, none⟩) := hide (by rw [if_neg hc1])
          go_upto_region 7 with fail
          have HO1 := hide ((unhide HO).below ((Below.refl _ _).alloc (Nat.le_refl _) (.cells #[.int .i64 i, .int .i64 e, .int .i64 u, .int .i64 y] 42))); have HY1 := hide (keep_alloc (unhide HY) (.cells #[.int .i64 i, .int .i64 e, .int .i64 u, .int .i64 y] 42)); have HQ1 := hide (keep_alloc (unhide HQr) (.cells #[.int .i64 i, .int .i64 e, .int .i64 u, .int .i64 y] 42)); have HLO1 := hide ((unhide HLO).below ((Below.refl _ _).alloc (Nat.le_refl _) (.cells #[.int .i64 i, .int .i64 e, .int .i64 u, .int .i64 y] 42))); have HX1 := hide ((unhide HXr).alloc (unhide HXr).size (.cells #[.int .i64 i, .int .i64 e, .int .i64 u, .int .i64 y] 42)); have HZ1 := hide (new_block wr (.cells #[.int .i64 i, .int .i64 e, .int .i64 u, .int .i64 y] 42))
          have hZl : w.heap.size + 1 < wr.heap.size := size_of (unhide HQr)
          have hgZ : gg < wr.heap.size := (unhide HLO).lt (by simp) gg rfl
          obtain ⟨Z, eZ⟩ : ∃ X, wr.heap.size = X := ⟨_, rfl⟩
          obtain ⟨W1, e1⟩ : ∃ X, wr.alloc (.cells #[.int .i64 i, .int .i64 e, .int .i64 u, .int .i64 y] 42) = X := ⟨_, rfl⟩
          rw [eZ, e1] at HZ1; rw [e1] at HO1 HY1 HQ1 HLO1 HX1; rw [eZ] at hZl hgZ; rw [eZ, e1]
          clear eZ e1 p0 p1 p2 pf0 pf1 pf2 pl q0 q1 q2 qf0 qf1 qf2 ql l0 l1 l2 l3 HO HY HQr HLO HXr
          have HBa : Hid (Below W1.heap.size W1 (W1.alloc (.cells #[.int .i64 e, .int .i64 i] 52))) := (Below.refl _ _).alloc (Nat.le_refl _) _
          have HOa := hide ((unhide HO1).below (unhide HBa)); have HYa := hide (keep_below (unhide HY1) (unhide HBa)); have HQa := hide (keep_below (unhide HQ1) (unhide HBa)); have HLa := hide ((unhide HLO1).below (unhide HBa)); have HXa := hide (Below.next (unhide HX1) (unhide HBa) (Nat.le_refl _)); have HZa := hide (keep_below (unhide HZ1) (unhide HBa)); have HIa : Hid (IsL KO (W1.alloc (.cells #[.int .i64 e, .int .i64 i] 52)) (.slice (some ⟨W1.heap.size, 0, none⟩) 1 1) [(e, i)]) := isl_one ko W1 (e, i)
          obtain ⟨⟨z0, z1', z2', z3⟩, -, zl⟩ := block4 (unhide HZ1)
          go_upto_region 8 with (at_builtin; refine wpList_append ko rfl _ _ rfl w.heap.size _ td rfl (unhide HOa) _ [(e, i)] rfl (unhide HIa) (k + 1) (by simp [unhide HTL]) (by simp [KO]; omega) (unhide HXa).size ?_; intro a2 c2 w2 ho2 hg2; have HO2 := hide ho2; have HY2 := hide (keep_grown (unhide HYa) hg2 (fun j hj => Own.ne (unhide HOa) (unhide HYa) (by decide) j hj)); have HQ2 := hide (keep_grown (unhide HQa) hg2 (fun j hj => Own.ne (unhide HOa) (unhide HQa) (by decide) j hj)); have HZ2 := hide (keep_grown (unhide HZa) hg2 (fun j hj => Own.ne (unhide HOa) (unhide HZa) (by decide) j hj)); have HL2 := hide (Lo.grown (unhide HLa) ((unhide HOa).base hB) hg2); have HX2 := hide ((unhide HXa).grown hg2 (unhide HXa).size (fun j hj => ((unhide HOa).lt j hj).1)); clear ho2 hg2 z0 z1' z2' z3 zl)
          clear HOa HYa HQa HLa HXa HZa HIa HBa HO1 HY1 HQ1 HLO1 HX1 HZ1
          have HLR := hide ((unhide HL2).drop1 (A := some ⟨gg, of + 4, none⟩) (unhide HAE))
          have HNE := hide (Lo.ne (unhide HL2) (unhide HY2) (by decide) hB (by simp) gg rfl)
          obtain ⟨⟨p0, p1, p2⟩, ⟨pf0, pf1, pf2⟩, pl⟩ := block3 (unhide HY2)
          go_upto_region 9 with fail
          clear p0 p1 p2 pf0 pf1 pf2 pl
          have HO3 := hide ((unhide HO2).keep (fun j hj => Below.heap_setCell w2 ⟨w.heap.size, 2, none⟩ (.slice (some ⟨gg, of + 4, none⟩) (zn - 1) (cv - 1)) j (by have := Own.ne (unhide HO2) (unhide HY2) (by decide) j hj; simpa using this))); have HY3 := hide (set_block3 (i := 2) (y := .slice (some ⟨gg, of + 4, none⟩) (zn - 1) (cv - 1)) (unhide HY2)); have HQ3 := hide (keep_set (g := w.heap.size) (o := 2) (v := .slice (some ⟨gg, of + 4, none⟩) (zn - 1) (cv - 1)) (unhide HQ2) (by omega)); have HZ3 := hide (keep_set (g := w.heap.size) (o := 2) (v := .slice (some ⟨gg, of + 4, none⟩) (zn - 1) (cv - 1)) (unhide HZ2) (by omega)); have HX3 := hide (below_set (i := 2) (unhide HX2) (Nat.le_refl _) (.slice (some ⟨gg, of + 4, none⟩) (zn - 1) (cv - 1))); have HL3 := hide ((unhide HLR).keep (w' := w2.setCell ⟨w.heap.size, 2, none⟩ (.slice (some ⟨gg, of + 4, none⟩) (zn - 1) (cv - 1))) (fun _ j hj => Below.heap_setCell w2 ⟨w.heap.size, 2, none⟩ (.slice (some ⟨gg, of + 4, none⟩) (zn - 1) (cv - 1)) j (by have h1 : j = gg := (Option.some.inj hj).symm; have := unhide HNE; subst h1; simpa using this)))
          simp only [List.setIfInBounds_toArray, List.set_cons_zero, List.set_cons_succ] at HY3
          obtain ⟨W3, e3⟩ : ∃ X, w2.setCell ⟨w.heap.size, 2, none⟩ (.slice (some ⟨gg, of + 4, none⟩) (zn - 1) (cv - 1)) = X := ⟨_, rfl⟩
          rw [e3] at HO3 HY3 HQ3 HZ3 HX3 HL3 ⊢
          clear e3 HO2 HY2 HQ2 HZ2 HX2 HL2 HLR
          obtain ⟨⟨p0, p1, p2⟩, ⟨pf0, pf1, pf2⟩, pl⟩ := block3 (unhide HY3)
          obtain ⟨⟨z0, z1', z2', z3⟩, ⟨zf0, zf1, zf2, zf3⟩, zl⟩ := block4 (unhide HZ3)
          by_cases hk5 : k = 5000
          · have j1 : (5000 : Int) < (k : Int) + 1 := by omega
            have HRE : Hid (R = none) := by have := unhide HRR; rw [hk5, Nat.sub_self, runL_zero he] at this; exact this.symm
            clear hk5
            obtain ⟨⟨q0, q1, q2⟩, ⟨qf0, qf1, qf2⟩, ql⟩ := block3 (unhide HQ3)
            go_wp2_with fail
            refine bodyPost_ret (v := .tuple #[.agg #[.int .i64 now, .int .i64 nx, .slice (some ⟨gg, of + 4, none⟩) (zn - 1) (cv - 1)], .slice none 0 0, .bool false]) (by simp [results, Try.results21, go_sem, q0, q1, q2]) rfl ⟨fun nx' zs' td' _ he' => ?_, fun _ => ⟨_, _, _, _, _, rfl⟩, putL_below (unhide HX3) (by omega)⟩
            rw [unhide HRE] at he'
            cases he'
          have j1 : ¬ (5000 : Int) < (k : Int) + 1 := by omega
          by_cases hu : u = 0
          · have j2 : ¬ (0 : Int) < u := by omega
            have HRN : Hid (runL E (5000 - (k + 1)) nx r (td ++ [(e, i)]) = R) := by
              have := unhide HRR
              have ho : offL nx (i, e, u, y) r = (nx, r) := by unfold offL; rw [if_pos hu]
              rw [show 5000 - k = (5000 - (k + 1)) + 1 by omega, runL_go he (fun hh => hh.1 hu), ho] at this
              exact this
            have HGO2 : Hid (Good now nx r) := (unhide HGO).sub (List.sublist_cons_self _ _)
            clear hu
            go_wp2_with fail
            go_roundw
            case rel => exact ⟨nx, r, td ++ [(e, i)], _, k + 1, c2, _, zn - 1, cv - 1, rfl, by omega, hide (by rw [List.length_append, unhide HTL]; rfl), HRL, HO3, HY3, HL3, HRN, HGO2, HQ3, HX3⟩
            case measure => simp [lenV]; omega
          · have j2 : (0 : Int) < u := by omega
            by_cases hmu : nx = 1000000000
            · have HRE : Hid (R = none) := by have := unhide HRR; rw [runL_much he ⟨hu, hmu⟩] at this; exact this.symm
              subst hmu
              obtain ⟨⟨q0, q1, q2⟩, ⟨qf0, qf1, qf2⟩, ql⟩ := block3 (unhide HQ3)
              go_wp2_with fail
              refine bodyPost_ret (v := .tuple #[.agg #[.int .i64 now, .int .i64 1000000000, .slice (some ⟨gg, of + 4, none⟩) (zn - 1) (cv - 1)], .slice none 0 0, .bool false]) (by simp [results, Try.results21, go_sem, q0, q1, q2]) rfl ⟨fun nx' zs' td' _ he' => ?_, fun _ => ⟨_, _, _, _, _, rfl⟩, putL_below (unhide HX3) (by omega)⟩
              rw [unhide HRE] at he'
              cases he'
            have j3 : (nx == 1000000000) = false := by simpa using hmu
            have hof : offL nx (i, e, u, y) r = (nx + 1, insL (i, e + u, u, nx) r) := by unfold offL; rw [if_neg hu]
            have hgo := (unhide HGO).off he (by omega) (fun hh => hmu hh.2)
            rw [hof] at hgo
            have HGO2 := hide hgo
            have HRN : Hid (runL E (5000 - (k + 1)) (nx + 1) (insL (i, e + u, u, nx) r) (td ++ [(e, i)]) = R) := by
              have := unhide HRR
              rw [show 5000 - k = (5000 - (k + 1)) + 1 by omega, runL_go he (fun hh => hmu hh.2), hof] at this
              exact this
            have hw5 : IntKind.i64.wrap (e + u) = e + u := wrapi (by omega) (by omega)
            clear hgo hof hu hmu
            go_upto_region 15 with fail
            clear p0 p1 p2 pf0 pf1 pf2 pl z0 z1' z2' z3 zf0 zf1 zf2 zf3 zl
            have HO4 := hide ((unhide HO3).keep (fun j hj => Below.heap_setCell W3 ⟨Z, 1, none⟩ (.int .i64 (e + u)) j (by have := Own.ne (unhide HO3) (unhide HZ3) (by decide) j hj; simpa using this))); have HZ4 := hide (set_block4 (i := 1) (y := .int .i64 (e + u)) (unhide HZ3)); have HQ4 := hide (keep_set (g := Z) (o := 1) (v := .int .i64 (e + u)) (unhide HQ3) (by omega)); have HY4 := hide (keep_set (g := Z) (o := 1) (v := .int .i64 (e + u)) (unhide HY3) (by omega)); have HX4 := hide (below_set (i := 1) (unhide HX3) (show w.heap.size ≤ Z by omega) (.int .i64 (e + u))); have HL4 := hide ((unhide HL3).keep (w' := W3.setCell ⟨Z, 1, none⟩ (.int .i64 (e + u))) (fun _ j hj => Below.heap_setCell W3 ⟨Z, 1, none⟩ (.int .i64 (e + u)) j (by have h1 : j = gg := (Option.some.inj hj).symm; subst h1; simp; omega)))
            simp only [List.setIfInBounds_toArray, List.set_cons_zero, List.set_cons_succ] at HZ4
            obtain ⟨W4, e4⟩ : ∃ X, W3.setCell ⟨Z, 1, none⟩ (.int .i64 (e + u)) = X := ⟨_, rfl⟩
            rw [e4] at HO4 HY4 HQ4 HZ4 HX4 HL4 ⊢
            clear e4 HO3 HY3 HQ3 HZ3 HX3 HL3
            obtain ⟨⟨p0, p1, p2⟩, ⟨pf0, pf1, pf2⟩, pl⟩ := block3 (unhide HY4)
            obtain ⟨⟨z0, z1', z2', z3⟩, ⟨zf0, zf1, zf2, zf3⟩, zl⟩ := block4 (unhide HZ4)
            have HWA := hide (withAlarm_any W4 (.agg #[.int .i64 now, .int .i64 nx, .slice (some ⟨gg, of + 4, none⟩) (zn - 1) (cv - 1)]) now nx r i (e + u) u y ⟨_, rfl, (unhide HL4).1⟩ (by rw [unhide HRL]; omega) hnx0 hnx1)
            rw [unhide HRL, show zn - 1 + 1 = zn by omega] at HWA
            have HIL : Hid ((insL (i, e + u, u, nx) r).length = zn) := hide (by rw [ins_len, unhide HRL]; omega)
            go_wp2_with (go_at_call 19; refine (unhide HWA).mono ?_; rintro rr w5 ⟨a5, c5, rfl, ho5, hb5⟩; have HL5 := hide (ho5.lo (B := B)); have HO5 := hide ((unhide HO4).below hb5); have HY5 := hide (keep_below (unhide HY4) hb5); have HQ5 := hide (keep_below (unhide HQ4) hb5); have HX5 := hide (Below.next (unhide HX4) hb5 (Nat.le_refl _)); clear ho5 hb5 p0 p1 p2 pf0 pf1 pf2 pl z0 z1' z2' z3 zf0 zf1 zf2 zf3 zl; obtain ⟨⟨p0, p1, p2⟩, ⟨pf0, pf1, pf2⟩, pl⟩ := block3 (unhide HY5))
            go_roundw
            case rel =>
              refine ⟨nx + 1, insL (i, e + u, u, nx) r, td ++ [(e, i)], _, k + 1, c2, a5, zn, c5, rfl, by omega, hide (by rw [List.length_append, unhide HTL]; rfl), HIL, ?_, ?_, ?_, HRN, HGO2, ?_, ?_⟩
              · exact putL_own (unhide HO5) (unhide HY5) (by decide)
              · exact putL_new (unhide HY5)
              · exact (unhide HL5).keep (fun h0 j hj => putL_keep (Lo.ne (unhide HL5) (unhide HY5) (by decide) hB h0 j hj))
              · exact putL_keeps (unhide HQ5) (by omega)
              · exact putL_below (unhide HX5) (Nat.le_refl _)
            case measure => simp [lenV]; omega
      · have HRE : Hid (R = some (nx, (i, e, u, y) :: r, td)) := by have := unhide HRR; rw [runL_stop he] at this; exact this.symm
        go_wp2_with fail
        refine bodyPost_ret (v := .tuple #[.agg #[.int .i64 E, .int .i64 nx, .slice (some ⟨gg, of, none⟩) zn cv], .slice a k c, .bool true]) (by simp [results, Try.results21, go_sem, q0, q1, q2]) rfl ⟨fun nx' zs' td' _ he => ?_, fun he => ?_, ?_⟩
        · rw [unhide HRE] at he
          cases he
          refine ⟨(some ⟨gg, of, none⟩), cv, a, c, by rw [unhide HTL]; first | rfl | rw [unhide HZL], ?_, ?_⟩
          · exact ((unhide HLO).keep (fun h0 j hj => putL_keep (show j ≠ w.heap.size + 1 from Lo.ne (unhide HLO) (unhide HQr) (by decide) (by omega) h0 j hj))).lenw (unhide HZL)
          · rw [unhide HTL]
            exact putL_own (unhide HO) (unhide HQr) (by decide)
        · rcases he with he | he
          · exact absurd (show Small E by unfold Small; omega) he
          · rw [unhide HRE] at he
            cases he
        · exact putL_below (unhide HXr) (by omega)

end Go.Proofs.Ytidpmcanfedbdaa
