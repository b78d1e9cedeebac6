/-
  Pipes: isSpent, aheadOfSend, aheadOfGet.
-/
import Derived.Test.YtbnmeeabpjmcoaaJ
namespace Go.Proofs.Ytbnmeeabpjmcoaa
open Go.RowKit

theorem Try.zeroClock (w : World) : (zeroValue 65).run Try.prog w = .ok (ckV ck0) w := by
  have h : (∀ w, (zeroValue 65).run Try.prog w = .ok (.agg (List.replicate 64 (Value.int .i64 0)).toArray) w) ∧ (Try.prog.info? 65).map (·.size) = some 64 := zero_of_info (P := Try.prog) (t := 65) (n := 64) (by kernel_rfl)
  have := h.1 w
  rw [← ck0_list] at this
  exact this
theorem build_ck0 (w : World) : (Instr.build 65 #[]).run Try.prog w = .ok (ckV ck0) w := by
  have hz := Try.zeroClock w
  simp [Instr.build, hz, Instr.fill, Value.cells, ckV]

set_option maxRecDepth 100000 in
set_option maxHeartbeats 2000000 in
theorem isSpent_any (w : World) (b : Nat) (a1 : Option Addr) (n1 k1 : Nat) (a2 : Option Addr) (n2 k2 : Nat) (c : Nat → Int) (hb : w.heap[b]? = some (ppB (.slice a1 n1 k1) (.slice a2 n2 k2) c)) :
    Calls Try.prog 62 #[.pointer (some ⟨b, 0, none⟩)] w fun e w' => e = .returned (.bool ((n2 : Int) == (n1 : Int))) ∧ Below w.heap.size w w' := by
  obtain ⟨p0, p1, -, -, -, pl⟩ := pp_cells hb
  clear hb
  go_enter Try.func62, Try.ntmps62
  go_upto_region 1 with fail
  go_quiet (fail)
  go_wp2_with fail
  go_ret
  exact ⟨rfl, below_drewN (Below.refl _ _) _⟩

set_option maxRecDepth 100000 in
set_option maxHeartbeats 2000000 in
theorem aheadOfSend1 (w : World) (b : Nat) (a1 : Option Addr) (n1 k1 : Nat) (a2 : Option Addr) (n2 k2 : Nat) (c : Nat → Int) (gs : List (Nat → Int)) (h q : Nat) (hn : n1 ≤ 100000) (hh : h ≤ 100000) (hq : n1 = h + q) (hq2 : q < n2) (hb : w.heap[b]? = some (ppB (.slice a1 n1 k1) (.slice a2 n2 k2) c)) (hg : IsL KG w (.slice a2 n2 k2) gs) :
    Calls Try.prog 55 #[.pointer (some ⟨b, 0, none⟩), .int .i64 (h : Int)] w fun e w' => e = .returned (ckV (gs.getD q ck0)) ∧ Below w.heap.size w w' := by
  obtain ⟨g2, o2, rfl, hgl, l2⟩ := hg.opens kg hg.len (by omega)
  have hlg := hg.len
  obtain ⟨W, eW, hB, hZ⟩ := res_new w
  obtain ⟨p0, p1, -, -, -, pl⟩ := pp_cells (keep_below hb hB)
  have HR : Hid (W.rangeAt g2 (o2 + q * 64) (ckL (gs.getD q ck0))) := (l2.below hB hgl).clock (by omega)
  obtain ⟨W2, eW2, hB2, hZ2⟩ := res_put hB (Nat.le_refl _) hZ (gs.getD q ck0)
  have HE := hide eW; have HE2 := hide eW2; have HB2 := hide hB2; have HZ := hide hZ; have HZ2 := hide hZ2
  have x0 : IntKind.i64.wrap ((n1 : Int) - (h : Int)) = (q : Int) := by rw [hq, show (((h + q : Nat)) : Int) - (h : Int) = (q : Int) by omega]; exact wrapi (by omega) (by omega)
  have i0 : (0 : Int) ≤ (q : Int) := by omega
  have i1 : (q : Int) < (n2 : Int) := by omega
  have i2 : ¬ (q : Int) < 0 := by omega
  have i3 : ¬ (n2 : Int) ≤ (q : Int) := by omega
  clear eW hB hZ eW2 hB2 hZ2 hb hg l2 hq hlg
  go_enter Try.func55, Try.ntmps55
  go_upto_region 1 with fail
  rw [ck0_arr, unhide HE]
  go_wp2_with (first | (refine wpList_load_mid rfl _ _ rfl _ _ rfl (ckL (gs.getD q ck0)) _ (unhide HR) Try.und65 rfl (by rw [ckL_len]; exact Try.size65) ?_) | (refine wpList_store_mid rfl _ _ _ rfl _ _ (ckL (gs.getD q ck0)).toArray rfl rfl (ckB_there (unhide HZ) _) (by simpa [ckL_len] using Try.size65) (ckL_all _) ?_; rw [unhide HE2]))
  exact bodyPost_ret (ret_ck (f := Try.f55) Try.results55 _ _ w.heap.size (gs.getD q ck0) rfl (unhide HZ2)) rfl ⟨rfl, unhide HB2⟩

set_option maxRecDepth 100000 in
set_option maxHeartbeats 2000000 in
theorem aheadOfSend_n (w : World) (b : Nat) (a1 : Option Addr) (n1 k1 : Nat) (a2 : Option Addr) (n2 k2 : Nat) (c : Nat → Int) (h : Nat) (hn : n1 ≤ 100000) (hh : h ≤ 100000) (hq : n1 < h) (hb : w.heap[b]? = some (ppB (.slice a1 n1 k1) (.slice a2 n2 k2) c)) :
    Calls Try.prog 55 #[.pointer (some ⟨b, 0, none⟩), .int .i64 (h : Int)] w fun e w' => e = .returned (ckV ck0) ∧ Below w.heap.size w w' := by
  obtain ⟨W, eW, hB, hZ⟩ := res_new w
  obtain ⟨p0, p1, -, -, -, pl⟩ := pp_cells (keep_below hb hB)
  obtain ⟨W2, eW2, hB2, hZ2⟩ := res_put hB (Nat.le_refl _) hZ ck0
  have HE := hide eW; have HE2 := hide eW2; have HB2 := hide hB2; have HZ := hide hZ; have HZ2 := hide hZ2
  have x0 : IntKind.i64.wrap ((n1 : Int) - (h : Int)) = (n1 : Int) - (h : Int) := wrapi (by omega) (by omega)
  have i2 : (n1 : Int) - (h : Int) < 0 := by omega
  clear eW hB hZ eW2 hB2 hZ2 hb hq
  go_enter Try.func55, Try.ntmps55
  have hbc := build_ck0
  go_upto_region 1 with fail
  rw [ck0_arr, unhide HE]
  go_upto_region 3 with fail
  go_wp2_with (rw [ck0_arr]; refine wpList_store_mid rfl _ _ _ rfl _ _ (ckL (ck0)).toArray rfl rfl (ckB_there (unhide HZ) _) (by simpa [ckL_len] using Try.size65) (ckL_all _) ?_; rw [unhide HE2])
  exact bodyPost_ret (ret_ck (f := Try.f55) Try.results55 _ _ w.heap.size ck0 rfl (unhide HZ2)) rfl ⟨rfl, unhide HB2⟩

set_option maxRecDepth 100000 in
set_option maxHeartbeats 2000000 in
theorem aheadOfSend_m (w : World) (b : Nat) (a1 : Option Addr) (n1 k1 : Nat) (a2 : Option Addr) (n2 k2 : Nat) (c : Nat → Int) (h : Nat) (hn : n1 ≤ 100000) (hh : h ≤ 100000) (q : Nat) (hq : n1 = h + q) (hq2 : n2 ≤ q) (hb : w.heap[b]? = some (ppB (.slice a1 n1 k1) (.slice a2 n2 k2) c)) :
    Calls Try.prog 55 #[.pointer (some ⟨b, 0, none⟩), .int .i64 (h : Int)] w fun e w' => e = .returned (ckV ck0) ∧ Below w.heap.size w w' := by
  obtain ⟨W, eW, hB, hZ⟩ := res_new w
  obtain ⟨p0, p1, -, -, -, pl⟩ := pp_cells (keep_below hb hB)
  obtain ⟨W2, eW2, hB2, hZ2⟩ := res_put hB (Nat.le_refl _) hZ ck0
  have HE := hide eW; have HE2 := hide eW2; have HB2 := hide hB2; have HZ := hide hZ; have HZ2 := hide hZ2
  have x0 : IntKind.i64.wrap ((n1 : Int) - (h : Int)) = (q : Int) := by rw [hq, show (((h + q : Nat)) : Int) - (h : Int) = (q : Int) by omega]; exact wrapi (by omega) (by omega)
  have i2 : ¬ (q : Int) < 0 := by omega
  have i3 : (n2 : Int) ≤ (q : Int) := by omega
  clear eW hB hZ eW2 hB2 hZ2 hb hq
  go_enter Try.func55, Try.ntmps55
  have hbc := build_ck0
  go_upto_region 1 with fail
  rw [ck0_arr, unhide HE]
  go_upto_region 3 with fail
  go_wp2_with (rw [ck0_arr]; refine wpList_store_mid rfl _ _ _ rfl _ _ (ckL (ck0)).toArray rfl rfl (ckB_there (unhide HZ) _) (by simpa [ckL_len] using Try.size65) (ckL_all _) ?_; rw [unhide HE2])
  exact bodyPost_ret (ret_ck (f := Try.f55) Try.results55 _ _ w.heap.size ck0 rfl (unhide HZ2)) rfl ⟨rfl, unhide HB2⟩

set_option maxRecDepth 100000 in
set_option maxHeartbeats 2000000 in
theorem aheadOfGet1 (w : World) (b : Nat) (a1 : Option Addr) (n1 k1 : Nat) (a2 : Option Addr) (n2 k2 : Nat) (c : Nat → Int) (hn : n2 = n1) (hb : w.heap[b]? = some (ppB (.slice a1 n1 k1) (.slice a2 n2 k2) c)) :
    Calls Try.prog 56 #[.pointer (some ⟨b, 0, none⟩)] w fun e w' => e = .returned (ckV c) ∧ Below w.heap.size w w' := by
  subst hn
  obtain ⟨W, eW, hB, hZ⟩ := res_new w
  have hbW := keep_below hb hB
  have hbs := size_of hb
  have HIS : Hid (Calls Try.prog 62 #[.pointer (some ⟨b, 0, none⟩)] W fun e w' => e = .returned (.bool true) ∧ Below W.heap.size W w') := (isSpent_any W b a1 n2 k1 a2 n2 k2 c hbW).mono fun e w' ⟨h1, h2⟩ => ⟨by rw [h1]; simp, h2⟩
  have HGO : Hid (∀ w1, Below W.heap.size W w1 → Below w.heap.size w w1 ∧ w1.heap[w.heap.size]? = some (ckB ck0) ∧ w1.rangeAt b 2 (ckL c)) := fun w1 h1 => ⟨Below.next hB h1 (Nat.le_refl _), keep_below hZ h1, (pp_cells (keep_below hbW h1)).2.2.2.2.1⟩
  have HE := hide eW
  clear eW hB hZ hb hbW
  go_enter Try.func56, Try.ntmps56
  go_upto_region 1 with fail
  rw [ck0_arr, unhide HE]
  go_upto_region 2 with (go_at_call 62; refine (unhide HIS).mono ?_; rintro e w1 ⟨rfl, hb1⟩; have HG := hide (unhide HGO _ hb1); clear hb1)
  obtain ⟨hB, hZ, hR⟩ := unhide HG
  have HR := hide hR
  obtain ⟨W2, eW2, hB2, hZ2⟩ := res_put hB (Nat.le_refl _) hZ c
  have HE2 := hide eW2; have HB2 := hide hB2; have HZ := hide hZ; have HZ2 := hide hZ2
  clear eW2 hB hZ hR hB2 hZ2 HG HGO HIS
  go_wp2_with (first | (refine wpList_load_mid rfl _ _ rfl _ _ rfl (ckL (c)) _ (unhide HR) Try.und65 rfl (by rw [ckL_len]; exact Try.size65) ?_) | (refine wpList_store_mid rfl _ _ _ rfl _ _ (ckL (c)).toArray rfl rfl (ckB_there (unhide HZ) _) (by simpa [ckL_len] using Try.size65) (ckL_all _) ?_; rw [unhide HE2]))
  exact bodyPost_ret (ret_ck (f := Try.f56) Try.results56 _ _ w.heap.size c rfl (unhide HZ2)) rfl ⟨rfl, unhide HB2⟩

set_option maxRecDepth 100000 in
set_option maxHeartbeats 2000000 in
theorem aheadOfGet0 (w : World) (b : Nat) (a1 : Option Addr) (n1 k1 : Nat) (a2 : Option Addr) (n2 k2 : Nat) (c : Nat → Int) (ss : List (Int × (Nat → Int))) (hn : n2 < n1) (hn1 : n1 ≤ 100000) (hb : w.heap[b]? = some (ppB (.slice a1 n1 k1) (.slice a2 n2 k2) c)) (hs : IsL KS w (.slice a1 n1 k1) ss) :
    Calls Try.prog 56 #[.pointer (some ⟨b, 0, none⟩)] w fun e w' => e = .returned (ckV (ss.getD n2 (0, ck0)).2) ∧ Below w.heap.size w w' := by
  obtain ⟨cc, ecc⟩ : ∃ X, (ss.getD n2 (0, ck0)).2 = X := ⟨_, rfl⟩
  rw [ecc]
  obtain ⟨s1, o1, rfl, hsl, l1⟩ := hs.opens ks hs.len (by omega)
  have hls := hs.len
  obtain ⟨W, eW, hB, hZ⟩ := res_new w
  have hbW := keep_below hb hB
  have HIS : Hid (Calls Try.prog 62 #[.pointer (some ⟨b, 0, none⟩)] W fun e w' => e = .returned (.bool false) ∧ Below W.heap.size W w') := (isSpent_any W b _ n1 k1 a2 n2 k2 c hbW).mono fun e w' ⟨h1, h2⟩ => ⟨by rw [h1, show ((n2 : Int) == (n1 : Int)) = false by simp; omega], h2⟩
  have HGO : Hid (∀ w1, Below W.heap.size W w1 → Below w.heap.size w w1 ∧ w1.heap[w.heap.size]? = some (ckB ck0) ∧ w1.heap[b]? = some (ppB (.slice (some ⟨s1, o1, none⟩) n1 k1) (.slice a2 n2 k2) c) ∧ w1.rangeAt s1 (o1 + n2 * 65 + 1) (ckL cc)) := fun w1 h1 => ⟨Below.next hB h1 (Nat.le_refl _), keep_below hZ h1, keep_below hbW h1, by rw [← ecc]; exact ((l1.below (Below.next hB h1 (Nat.le_refl _)) hsl).sent (by omega)).2⟩
  have HBW := hide (size_of hb)
  have HE := hide eW
  have i0 : (0 : Int) ≤ (n2 : Int) := by omega
  have i1 : (n2 : Int) < (n1 : Int) := by omega
  clear eW hB hZ hb hbW hs l1 ecc
  go_enter Try.func56, Try.ntmps56
  go_upto_region 1 with fail
  rw [ck0_arr, unhide HE]
  go_upto_region 3 with (go_at_call 62; refine (unhide HIS).mono ?_; rintro e w1 ⟨rfl, hb1⟩; have HG := hide (unhide HGO _ hb1); clear hb1)
  obtain ⟨hB, hZ, hb1, hR⟩ := unhide HG
  obtain ⟨p0, p1, -, -, -, pl⟩ := pp_cells hb1
  have hu := Try.und65; have hi : (Try.prog.info? 65).map (·.size) = some (ckL cc).length := by rw [ckL_len]; exact Try.size65
  have HZ := hide hZ; have HB := hide hB
  obtain ⟨W2, eW2, hB2, hZ2⟩ := res_put hB.drew (Nat.le_refl _) ((drew_at _ _).trans hZ) cc
  have HE2 := hide eW2; have HB2 := hide hB2; have HZ2 := hide hZ2
  have HSS : Hid (∀ W' : World, W'.heap[b]? = w1.heap[b]? → W'.heap[s1]? = w1.heap[s1]? → W'.cell? ⟨b, 0, none⟩ = some (.slice (some ⟨s1, o1, none⟩) n1 k1) ∧ W'.cell? ⟨b, 1, none⟩ = some (.slice a2 n2 k2) ∧ W'.rangeAt s1 (o1 + n2 * 65 + 1) (ckL cc)) := fun W' h1 h2 => ⟨by rw [World.cell?_of_block (w := w1) (a := ⟨b, 0, none⟩) h1]; exact p0, by rw [World.cell?_of_block (w := w1) (a := ⟨b, 1, none⟩) h1]; exact p1, fun j v hv => by rw [World.cell?_of_block (w := w1) (a := ⟨s1, _, none⟩) h2]; exact hR j v hv⟩
  have hone := ckL_one cc
  have hbl := size_of hb1
  have HKP : Hid (∀ j, j < w.heap.size → (w1.drew.setCells w.heap.size 0 (ckL cc)).heap[j]? = w1.heap[j]?) := fun j hj => ((But.setCells (ckL cc) 0 w1.drew (But.refl w.heap.size w1.drew)).block j (Nat.lt_of_lt_of_le hj hB.size) (by omega)).trans (drew_at _ _)
  have HTH := ckB_there ((drew_at w1 _).trans hZ) cc
  have HTH2 := ckB_there hZ cc
  clear hB hZ HG HGO HIS hb1 hB2 hZ2 eW2
  go_region_held3 (fun W' => W'.cell? ⟨b, 0, none⟩ = some (.slice (some ⟨s1, o1, none⟩) n1 k1) ∧ W'.cell? ⟨b, 1, none⟩ = some (.slice a2 n2 k2) ∧ W'.rangeAt s1 (o1 + n2 * 65 + 1) (ckL cc))
    (first | exact unhide HSS _ (drew_at _ _) (drew_at _ _) | exact unhide HSS _ (unhide HKP _ (unhide HBW)) (unhide HKP _ hsl))
    (first | (refine wpList_store_mid rfl _ _ _ rfl _ _ (ckL cc).toArray rfl rfl (ckB_there ((drew_at _ _).trans (unhide HZ)) _) (by simpa [ckL_len] using Try.size65) (ckL_all _) ?_; rw [unhide HE2]))
  have hE2 : w1.drew.setCells w.heap.size 0 (ckL cc) = W2 := unhide HE2
  rw [hE2]
  clear hE2 HE2 HSS HKP HTH HTH2 p0 p1 hR
  go_wp2_with fail
  exact bodyPost_ret (ret_ck (f := Try.f56) Try.results56 _ _ w.heap.size cc rfl (unhide HZ2)) rfl ⟨rfl, unhide HB2⟩

end Go.Proofs.Ytbnmeeabpjmcoaa
