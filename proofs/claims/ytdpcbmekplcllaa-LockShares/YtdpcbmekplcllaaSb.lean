/-
  The function that taskmilllaw.LockShares makes.
-/
import Derived.Test.YtdpcbmekplcllaaSa
namespace Go.Proofs.Ytdpcbmekplcllaa
open Go.RowKit

theorem enters24 : ∀ args w, (callFunc 24 args).run Try.prog w = .ok (.enter 24 args) w := fun _ _ => by kernel_rfl

set_option maxRecDepth 100000 in
set_option maxHeartbeats 2000000 in
theorem share_enter (w : World) (g : Nat) (P : Lk) (a : Option Addr) (c : Nat) (x : Int) (wt : Bool) (hg : w.heap[g]? = some (.cells #[.int .i64 P.readers, .bool P.writer, .slice a P.line.length c] 24)) (hl : New KP (g + 1) w (.slice a P.line.length c) P.line) (hf : (enterF P x).1 = 0) :
    Calls Try.prog 24 #[.int .i64 x, .bool wt, .pointer (some ⟨g, 0, none⟩)] w fun e w' => ∃ a' c', e = .returned (.tuple #[.bool (enterR P x wt false).2, .bool true]) ∧ w'.heap[g]? = some (.cells #[.int .i64 (enterR P x wt false).1.readers, .bool (enterR P x wt false).1.writer, .slice a' (enterR P x wt false).1.line.length c'] 24) ∧ New KP w.heap.size w' (.slice a' (enterR P x wt false).1.line.length c') (enterR P x wt false).1.line ∧ But g w w' := by
  have HEN : Hid (Calls Try.prog 11 #[.agg #[.int .i64 P.readers, .bool P.writer, .slice a P.line.length c], .int .i64 x, .bool wt, .bool false] w fun e w' => ∃ a' c', e = .returned (.tuple #[.agg #[.int .i64 (enterR P x wt false).1.readers, .bool (enterR P x wt false).1.writer, .slice a' (enterR P x wt false).1.line.length c'], .bool (enterR P x wt false).2, .agg #[.int .i64 0, .int .i64 0]]) ∧ New KP w.heap.size w' (.slice a' (enterR P x wt false).1.line.length c') (enterR P x wt false).1.line ∧ Below w.heap.size w w') := (enter_ok w _ P x wt false ⟨_, rfl, hl.1⟩ hf).mono fun e w' ⟨v1, h1, h2, h3⟩ => by
    obtain ⟨a', c', rfl, h4⟩ := h2.form
    exact ⟨a', c', h1, h4, h3⟩
  obtain ⟨⟨Q, q⟩, eQ⟩ : ∃ Q, enterR P x wt false = Q := ⟨_, rfl⟩
  rw [eQ] at HEN ⊢
  simp only at HEN ⊢
  have HP := hide hg
  have HGS := hide (size_of hg)
  have HX := hide (Below.refl w.heap.size w)
  clear hg hl hf eQ
  go_enter Try.func24, Try.ntmps24
  obtain ⟨⟨p0, p1, p2⟩, ⟨pf0, pf1, pf2⟩, pl⟩ := block3 (unhide HP)
  go_upto_region 2 with (go_at_call 11; refine (unhide HEN).mono ?_; rintro e w2 ⟨a2, c2, rfl, hn2, hb2⟩; have HN2 := hide hn2; have HX_1 := hide (Below.next (unhide HX) hb2 (by first | exact Nat.le_refl _ | (have := unhide HBA; omega))); have Kp_1 := hide (keep_below (unhide HP) hb2); clear HX HP; clear hb2 hn2 p0 p1 p2 pf0 pf1 pf2 pl)
  obtain ⟨W3, eW3, hBW3, k0_2, k1_2⟩ := two_new w2 (.cells #[.int .i64 Q.readers, .bool Q.writer, .slice a2 Q.line.length c2] 24) (.cells #[.int .i64 0, .int .i64 0] 28)
  rw [eW3]
  clear eW3
  have hlp_m : g < w2.heap.size := size_of (unhide Kp_1)
  (have HX_2 := hide (Below.next (unhide HX_1) hBW3 (by first | exact Nat.le_refl _ | (have := unhide HBA; omega))); have Kp_2 := hide (keep_below (unhide Kp_1) hBW3); have FN_2 := hide ((unhide HN2).below hBW3); clear HX_1 Kp_1 HN2)
  obtain ⟨M, eM⟩ : ∃ X, w2.heap.size = X := ⟨_, rfl⟩
  rw [eM] at k0_2 k1_2 hlp_m ⊢
  have Km_2 := hide k0_2
  have Kf_2 := hide k1_2
  clear eM hBW3 k0_2 k1_2
  obtain ⟨⟨p0, p1, p2⟩, ⟨pf0, pf1, pf2⟩, pl⟩ := block3 (unhide Kp_2)
  obtain ⟨⟨m0, m1, m2⟩, ⟨mf0, mf1, mf2⟩, ml⟩ := block3 (unhide Km_2)
  go_upto_region 3 with fail
  clear p0 p1 p2 pf0 pf1 pf2 pl m0 m1 m2 mf0 mf1 mf2 ml
  have HBT : Hid (But g w (putL W3 g (.int .i64 Q.readers) (.bool Q.writer) (.slice a2 Q.line.length c2))) := (But.of_below (unhide HX_2)).trans ⟨rfl, rfl, rfl, (putL_below (Below.refl 0 W3) (Nat.zero_le g)).size, fun k _ hk => putL_keep hk⟩
  have Kp9 := hide (putL_new (y0 := .int .i64 Q.readers) (y1 := .bool Q.writer) (y2 := .slice a2 Q.line.length c2) (unhide Kp_2))
  have Kf9 := hide ((putL_keep (y0 := .int .i64 Q.readers) (y1 := .bool Q.writer) (y2 := .slice a2 Q.line.length c2) (show M + 1 ≠ g by omega)).trans (unhide Kf_2))
  have NN9 := hide ((unhide FN_2).keep kp (fun k hk _ => putL_keep (y0 := .int .i64 Q.readers) (y1 := .bool Q.writer) (y2 := .slice a2 Q.line.length c2) (show k ≠ g by have := unhide HGS; omega)))
  obtain ⟨W4, e4⟩ : ∃ X, putL W3 g (.int .i64 Q.readers) (.bool Q.writer) (.slice a2 Q.line.length c2) = X := ⟨_, rfl⟩
  rw [e4] at Kp9 Kf9 NN9 HBT
  have e42 : (((W3).setCell ⟨g, 0, none⟩ (.int .i64 Q.readers)).setCell ⟨g, 1, none⟩ (.bool Q.writer)).setCell ⟨g, 2, none⟩ (.slice a2 Q.line.length c2) = W4 := e4
  rw [e42]
  clear e4 e42 Kp_2 Km_2 Kf_2 FN_2 HX_2
  obtain ⟨f0, f1, -, -, fl⟩ := block2 (unhide Kf9)
  go_wp2_with fail
  go_quiet (fail)
  go_wp2_with fail
  exact bodyPost_ret (v := .tuple #[.bool q, .bool true]) (by simp [results, Try.results24, go_sem]) rfl ⟨a2, c2, rfl, keep_below (unhide Kp9) (below_drewN (Below.refl _ _) _), (unhide NN9).below (below_drewN (Below.refl _ _) _), (unhide HBT).call (below_drewN (Below.refl _ _) _)⟩
end Go.Proofs.Ytdpcbmekplcllaa
