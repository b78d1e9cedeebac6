/-
  The method keep of order.past.
-/
import Derived.Test.YtbnmeeabpjmcoaaN
namespace Go.Proofs.Ytbnmeeabpjmcoaa
open Go.RowKit

theorem clock_at {w : World} {b : Nat} {c : Nat → Int} (h : w.heap[b]? = some (ckB c)) : w.heap[b]? = some (.cells ([] ++ ckL c ++ []).toArray 65 (0, 0)) := by simpa [ckB] using h
theorem at_clock {w : World} {b : Nat} {c : Nat → Int} (h : w.heap[b]? = some (.cells ([] ++ ckL c ++ []).toArray 65 (0, 0))) : w.heap[b]? = some (ckB c) := by simpa [ckB] using h
theorem But.stp {d : Dat} {w w' : World} {b : Nat} {x : Nat × Int} (h : But b w w') (hb : d.lab b = x) (hx : x ≠ (0, 0)) : Stp d d w w' := (Ch.of_but h hb).stp (fun e => hx e.symm)
/-- A pipe whose rows have changed. -/
theorem PastAt.pipeTo {hv : Value} {w w' : World} {d : Dat} {M : PastM} (h : PastAt hv w d M) {k : Int} {b : Nat} (hm : (k, b) ∈ d.kp) (old : Value) (s' g' : Value) (q : PipeM) (m : Nat) (hold : ∀ j, old.ownBlock = some j → d.lab j = (m, k)) (hmm : m = 10 ∨ m = 11) (hF : Fr b old w w')
    (hb : w'.heap[b]? = some (ppB s' g' q.shut)) (hs : Own KS 0 w' s' q.sends) (hg : Own KG 0 w' g' q.gets)
    (hls : ∀ j, s'.ownBlock = some j → j < w.heap.size → d.lab j = (10, k)) (hlg : ∀ j, g'.ownBlock = some j → j < w.heap.size → d.lab j = (11, k)) (hap : ∀ j, s'.ownBlock = some j → g'.ownBlock = some j → False) :
    ∃ d', PastAt hv w' d' { M with pipes := updI M.pipes k q } ∧ Stp d d' w w' := by
  obtain ⟨hle, hlt, -⟩ := h.p.ent k b hm
  have hkeep : ∀ j, j < w.heap.size → d.lab j ≠ (9, k) → d.lab j ≠ (10, k) → d.lab j ≠ (11, k) → w'.heap[j]? = w.heap[j]? := fun j hj h1 h2 h3 => hF.keep j hj (fun e => h1 (by rw [e]; exact hle)) (fun e => by
    have := hold j e
    rcases hmm with rfl | rfl
    · exact h2 this
    · exact h3 this)
  let lab' : Nat → Nat × Int := fun j => if j < w.heap.size then d.lab j else if s'.ownBlock = some j then (10, k) else if g'.ownBlock = some j then (11, k) else (0, 0)
  have hlab : ∀ j, j < w.heap.size → lab' j = d.lab j := fun j hj => if_pos hj
  refine ⟨_, h.setP hm lab' s' g' q ⟨hb, hs, fun j hj => ?_, hg, fun j hj => ?_⟩ hF.size hlab hkeep (fun j hj => ?_), ⟨hF.os, hF.tape, hF.output, hF.size, hlab, fun j hj hl => hkeep j hj (by rw [hl]; simp) (by rw [hl]; simp) (by rw [hl]; simp), rfl, rfl, rfl, rfl, rfl, fun _ h => h⟩⟩
  · by_cases hlt : j < w.heap.size
    · rw [hlab j hlt]; exact hls j hj hlt
    · show (if j < w.heap.size then _ else _) = _
      rw [if_neg hlt, if_pos hj]
  · by_cases hlt : j < w.heap.size
    · rw [hlab j hlt]; exact hlg j hj hlt
    · show (if j < w.heap.size then _ else _) = _
      rw [if_neg hlt, if_neg (fun e => hap j e hj), if_pos hj]
  · have hsz := hF.size
    show (if j < w.heap.size then _ else _) = _
    rw [if_neg (by omega), if_neg (fun e => by have := (hs.lt j e).2; omega), if_neg (fun e => by have := (hg.lt j e).2; omega)]
theorem own_apart {w : World} {sv gv : Value} {ss : List (Int × (Nat → Int))} {gs : List (Nat → Int)} (h1 : Own KS 0 w sv ss) (h2 : Own KG 0 w gv gs) : ∀ j, sv.ownBlock = some j → gv.ownBlock = some j → False := fun j hs hg => by
  obtain ⟨_, ⟨rfl, _⟩ | ⟨g, cap, cur, rfl, hg1, hh1, _⟩⟩ := h1
  · cases hs
  · obtain ⟨_, ⟨rfl, _⟩ | ⟨g', cap', cur', rfl, hg2, hh2, _⟩⟩ := h2
    · cases hg
    · cases hs
      cases hg
      rw [hh1] at hh2
      cases hh2
/-- keepSend at a past. -/
theorem keepSend_at (w : World) (hv : Value) (d : Dat) (M : PastM) (h : PastAt hv w d M) (k : Int) (b : Nat) (hm : (k, b) ∈ d.kp) (hsh : Short M) (t : Int) (now : Nat → Int) :
    Calls Try.prog 59 #[.pointer (some ⟨b, 0, none⟩), .int .i64 t, ckV now] w fun e w' => ∃ d', e = .returned (.tuple #[]) ∧ PastAt hv w' d' { M with pipes := updI M.pipes k { M.pipes k with sends := (M.pipes k).sends ++ [(t, now)] } } ∧ Stp d d' w w' := by
  obtain ⟨hle, hlt, hp⟩ := h.p.ent k b hm
  obtain ⟨a1, k1, e1⟩ := hp.sends.form
  have hb := hp.blk
  have hS := hp.sends
  have hL := hp.ls
  rw [e1] at hb hS hL
  refine (keepSend_any w b a1 _ k1 (d.gv k) (M.pipes k).shut now t _ hb hS (hsh.s k)).mono ?_
  rintro e w' ⟨a', k', rfl, h1, h2, h3, hF⟩
  have hG : Own KG 0 w' (d.gv k) (M.pipes k).gets := hp.gets.keep fun j hj => hF.keep j (hp.gets.lt j hj).2 (fun e => by have := hp.lg j hj; rw [e, hle] at this; simp at this) (fun e => by have := hp.lg j hj; rw [hL j e] at this; simp at this)
  obtain ⟨d', h4, h5⟩ := h.pipeTo hm (.slice a1 _ k1) (.slice a' _ k') (d.gv k) { M.pipes k with sends := (M.pipes k).sends ++ [(t, now)] } 10 hL (Or.inl rfl) hF h1 h2 hG (fun j hj hlt => by
    rcases h3 j hj with h | h
    · exact hL j h
    · omega) (fun j hj _ => hp.lg j hj) (own_apart h2 hG)
  exact ⟨d', rfl, h4, h5⟩
theorem keepGet_at (w : World) (hv : Value) (d : Dat) (M : PastM) (h : PastAt hv w d M) (k : Int) (b : Nat) (hm : (k, b) ∈ d.kp) (hsh : Short M) (now : Nat → Int) (hne : (M.pipes k).gets.length ≠ (M.pipes k).sends.length) :
    Calls Try.prog 60 #[.pointer (some ⟨b, 0, none⟩), ckV now] w fun e w' => ∃ d', e = .returned (.int .i64 (byM (M.pipes k))) ∧ PastAt hv w' d' { M with pipes := updI M.pipes k (getM (M.pipes k) now) } ∧ Stp d d' w w' := by
  obtain ⟨hle, hlt, hp⟩ := h.p.ent k b hm
  obtain ⟨a1, k1, e1⟩ := hp.sends.form
  obtain ⟨a2, k2, e2⟩ := hp.gets.form
  have hb := hp.blk
  have hS := hp.sends
  have hG := hp.gets
  have hL := hp.ls
  have hLg := hp.lg
  rw [e1, e2] at hb
  rw [e1] at hS hL
  rw [e2] at hG hLg
  have hg := hsh.g k
  refine (keepGet0 w b a1 _ k1 a2 _ k2 (M.pipes k).shut now _ _ (byM (M.pipes k)) rfl (by omega) (hsh.s k) hb hS.isl hG).mono ?_
  rintro e w' ⟨a', k', rfl, h1, h2, h3, hF⟩
  have hS' : Own KS 0 w' (.slice a1 (M.pipes k).sends.length k1) (M.pipes k).sends := hS.keep fun j hj => hF.keep j (hS.lt j hj).2 (fun e => by have := hL j hj; rw [e, hle] at this; simp at this) (fun e => by have := hL j hj; rw [hLg j e] at this; simp at this)
  obtain ⟨d', h4, h5⟩ := h.pipeTo hm (.slice a2 _ k2) (.slice a1 _ k1) (.slice a' _ k') (getM (M.pipes k) now) 11 hLg (Or.inr rfl) hF h1 hS' h2 (fun j hj _ => hL j hj) (fun j hj hlt => by
    rcases h3 j hj with h | h
    · exact hLg j h
    · omega) (own_apart hS' h2)
  exact ⟨d', rfl, h4, h5⟩
theorem keepGet_spent (w : World) (hv : Value) (d : Dat) (M : PastM) (h : PastAt hv w d M) (k : Int) (b : Nat) (hm : (k, b) ∈ d.kp) (now : Nat → Int) (he : (M.pipes k).gets.length = (M.pipes k).sends.length) :
    Calls Try.prog 60 #[.pointer (some ⟨b, 0, none⟩), ckV now] w fun e w' => e = .returned (.int .i64 0) ∧ Below w.heap.size w w' := by
  obtain ⟨hle, hlt, hp⟩ := h.p.ent k b hm
  obtain ⟨a1, k1, e1⟩ := hp.sends.form
  obtain ⟨a2, k2, e2⟩ := hp.gets.form
  have hb := hp.blk
  rw [e1, e2] at hb
  exact keepGet1 w b a1 _ k1 a2 _ k2 (M.pipes k).shut now he hb
/-- join at a past's clock. -/
theorem joinT_at (w : World) (hv : Value) (d : Dat) (M : PastM) (h : PastAt hv w d M) (k : Int) (b : Nat) (hm : (k, b) ∈ d.kt) (c : Nat → Int) :
    Calls Try.prog 51 #[.pointer (some ⟨b, 0, none⟩), ckV c] w fun e w' => ∃ d', e = .returned (.tuple #[]) ∧ PastAt hv w' d' (joinT M k c) ∧ Stp d d' w w' := by
  obtain ⟨hle, hlt, hc⟩ := h.t.ent k b hm
  refine (join_any w b 0 [] [] (M.tasks k) c _ rfl (clock_at hc)).mono ?_
  rintro e w' ⟨rfl, h1, h2⟩
  exact ⟨d, rfl, h.setT hm _ (at_clock h1) (Ch.of_but h2 hle), But.stp h2 hle (by simp)⟩
theorem joinG_at (w : World) (hv : Value) (d : Dat) (M : PastM) (h : PastAt hv w d M) (k : Int) (b : Nat) (hm : (k, b) ∈ d.kg) (c : Nat → Int) :
    Calls Try.prog 51 #[.pointer (some ⟨b, 0, none⟩), ckV c] w fun e w' => ∃ d', e = .returned (.tuple #[]) ∧ PastAt hv w' d' { M with groups := updI M.groups k (joinC (M.groups k) c) } ∧ Stp d d' w w' := by
  obtain ⟨hle, hlt, hc⟩ := h.g.ent k b hm
  refine (join_any w b 0 [] [] (M.groups k) c _ rfl (clock_at hc)).mono ?_
  rintro e w' ⟨rfl, h1, h2⟩
  exact ⟨d, rfl, h.setG hm _ (at_clock h1) (Ch.of_but h2 hle), But.stp h2 hle (by simp)⟩
theorem unlock_at (w : World) (hv : Value) (d : Dat) (M : PastM) (h : PastAt hv w d M) (k : Int) (b : Nat) (hm : (k, b) ∈ d.kl) (v : Int) (c : Nat → Int) :
    Calls Try.prog 61 #[.pointer (some ⟨b, 0, none⟩), .int .i64 v, ckV c] w fun e w' => ∃ d', e = .returned (.tuple #[]) ∧ PastAt hv w' d' { M with locks := updI M.locks k (unlockM (M.locks k) v c) } ∧ Stp d d' w w' := by
  obtain ⟨hle, hlt, hc⟩ := h.l.ent k b hm
  refine (keepUnlock_any w b (M.locks k) c v hc).mono ?_
  rintro e w' ⟨rfl, h1, h2⟩
  exact ⟨d, rfl, h.setL hm _ h1 (Ch.of_but h2 hle), But.stp h2 hle (by simp)⟩
/-- A pipe that is shut. -/
theorem PastAt.shut {hv : Value} {w : World} {d : Dat} {M : PastM} (h : PastAt hv w d M) {k : Int} {b : Nat} (hm : (k, b) ∈ d.kp) (c : Nat → Int) : ∃ d', PastAt hv (w.setCells b 2 (ckL c)) d' { M with pipes := updI M.pipes k { M.pipes k with shut := c } } ∧ Stp d d' w (w.setCells b 2 (ckL c)) := by
  obtain ⟨hle, hlt, hp⟩ := h.p.ent k b hm
  have hB := But.setCells (ckL c) 2 w (But.refl b w)
  have hne : ∀ (m : Nat) j, m = 10 ∨ m = 11 → d.lab j = (m, k) → j ≠ b := fun m j hmm hl e => by
    rw [e, hle] at hl
    rcases hmm with rfl | rfl <;> simp at hl
  have hS : Own KS 0 (w.setCells b 2 (ckL c)) (d.sv k) (M.pipes k).sends := hp.sends.keep fun j hj => setCells_keep b _ _ w j (hne 10 j (Or.inl rfl) (hp.ls j hj))
  have hG : Own KG 0 (w.setCells b 2 (ckL c)) (d.gv k) (M.pipes k).gets := hp.gets.keep fun j hj => setCells_keep b _ _ w j (hne 11 j (Or.inr rfl) (hp.lg j hj))
  exact h.pipeTo hm (.slice none 0 0) (d.sv k) (d.gv k) { M.pipes k with shut := c } 10 (fun j hj => by cases hj) (Or.inl rfl) ⟨hB.os, hB.tape, hB.output, hB.size, fun j hj hb _ => hB.block j hj hb⟩ (pp_shut hp.blk c) hS hG (fun j hj _ => hp.ls j hj) (fun j hj _ => hp.lg j hj) (own_apart hS hG)

set_option maxRecDepth 100000 in
set_option maxHeartbeats 2000000 in
theorem keep11 (w : World) (hv : Value) (_hs : List Int) (d : Dat) (M : PastM) (tk op ob vl : Int) (now : Nat → Int) (hop : op = 11) (h : PastAt hv w d M) :
    Calls Try.prog 53 #[.pointer (some ⟨d.P, 0, none⟩), .agg #[.int .i64 tk, .int .i64 op, .int .i64 ob, .int .i64 vl], ckV now] w fun e w' => ∃ d', e = .returned (.tuple #[]) ∧ PastAt hv w' d' (joinT M vl now) ∧ Stp d d' w w' := by
  subst hop
  obtain ⟨W, eW, hB, hE, hZ⟩ := two_new w (evB ⟨tk, 11, ob, vl⟩) (ckB now)
  have hP := h.below hB
  have hLE : d.lab w.heap.size = (0, 0) := h.hi _ (Nat.le_refl _)
  have hLR : d.lab (w.heap.size + 1) = (0, 0) := h.hi _ (Nat.le_succ _)
  have HPd : Hid (PastAt hv W.drew d M) := hP.below (Below.refl _ _).drew
  have HSS : Hid (∀ (W' : World) (d1 : Dat) (M' : PastM), PastAt hv W' d1 M' → Stp d d1 W W' → (W'.cell? ⟨d.P, 0, none⟩ = some hv ∧ W'.cell? ⟨d.P, 1, none⟩ = some (.map (some d.Bt)) ∧ W'.cell? ⟨d.P, 2, none⟩ = some (.map (some d.Bp)) ∧ W'.cell? ⟨d.P, 3, none⟩ = some (.map (some d.Bl)) ∧ W'.cell? ⟨d.P, 4, none⟩ = some (.map (some d.Bg))) ∧ (W'.cell? ⟨w.heap.size, 0, none⟩ = some (.int .i64 tk) ∧ W'.cell? ⟨w.heap.size, 1, none⟩ = some (.int .i64 11) ∧ W'.cell? ⟨w.heap.size, 2, none⟩ = some (.int .i64 ob) ∧ W'.cell? ⟨w.heap.size, 3, none⟩ = some (.int .i64 vl)) ∧ W'.rangeAt (w.heap.size + 1) 0 (ckL now)) := fun W' d1 M' h1 h2 => ⟨h1.cellsP h2, ev_cells (h2.at hE hLE), range_block (l := []) (r := []) (by have := h2.at hZ hLR; simpa [ckB] using this)⟩
  have HWS : Hid (Stp d d w W) := Stp.of_below hB
  have HSD : Hid (Stp d d W W.drew) := Stp.of_below (Below.refl _ _).drew
  have HS0 := hide (unhide HSS W.drew d M (unhide HPd) (unhide HSD))
  obtain ⟨x0, x1, x2, x3⟩ := ev_cells hE
  have HE := hide eW
  have hu := Try.und65
  have hi : (Try.prog.info? 65).map (·.size) = some (ckL now).length := by rw [ckL_len]; exact Try.size65
  clear eW hB hE hZ hP hLE hLR h
  go_enter Try.func53, Try.ntmps53
  go_upto_region 1 with fail
  unfold evB ckB at HE
  rw [unhide HE]
  clear HE
  go_upto_region 3 with fail
  clear x0 x1 x2 x3
  go_region_held3 (fun W' => (W'.cell? ⟨d.P, 0, none⟩ = some hv ∧ W'.cell? ⟨d.P, 1, none⟩ = some (.map (some d.Bt)) ∧ W'.cell? ⟨d.P, 2, none⟩ = some (.map (some d.Bp)) ∧ W'.cell? ⟨d.P, 3, none⟩ = some (.map (some d.Bl)) ∧ W'.cell? ⟨d.P, 4, none⟩ = some (.map (some d.Bg))) ∧ (W'.cell? ⟨w.heap.size, 0, none⟩ = some (.int .i64 tk) ∧ W'.cell? ⟨w.heap.size, 1, none⟩ = some (.int .i64 11) ∧ W'.cell? ⟨w.heap.size, 2, none⟩ = some (.int .i64 ob) ∧ W'.cell? ⟨w.heap.size, 3, none⟩ = some (.int .i64 vl)) ∧ W'.rangeAt (w.heap.size + 1) 0 (ckL now))
    (first | exact unhide HS0 | exact unhide HS1 | exact unhide HS2 | exact unhide HS3)
    (first
      | (go_at_call 50; (with_reducible refine Calls.mono (found_t _ hv d M (unhide HPd) vl) ?_); rintro e w1 ⟨d1, b, rfl, hm, h1, h2⟩; have HP1 := hide h1; have HT1 := hide (Stp.trans (unhide HSD) h2); have HM1 := hide hm; have HS1 := hide (unhide HSS w1 d1 M h1 (unhide HT1)); clear h1 h2 hm)
      | (go_at_call 51; (with_reducible refine Calls.mono (joinT_at _ hv d1 M (unhide HP1) vl b (unhide HM1) now) ?_); rintro e w2 ⟨d2, rfl, h1, h2⟩; have HP2 := hide h1; have HT2 := hide ((unhide HT1).trans h2); have HS2 := hide (unhide HSS w2 d2 _ h1 (unhide HT2)); clear h1 h2))
  go_wp2_with fail
  exact bodyPost_end (v := .tuple #[]) (by simp [results, Try.results53]) rfl ⟨d2, rfl, unhide HP2, (unhide HWS).trans (unhide HT2)⟩

set_option maxRecDepth 100000 in
set_option maxHeartbeats 2000000 in
theorem keep14 (w : World) (hv : Value) (_hs : List Int) (d : Dat) (M : PastM) (tk op ob vl : Int) (now : Nat → Int) (hop : op = 14) (h : PastAt hv w d M) (hsh : Short M) :
    Calls Try.prog 53 #[.pointer (some ⟨d.P, 0, none⟩), .agg #[.int .i64 tk, .int .i64 op, .int .i64 ob, .int .i64 vl], ckV now] w fun e w' => ∃ d', e = .returned (.tuple #[]) ∧ PastAt hv w' d' ({ M with pipes := updI M.pipes ob { M.pipes ob with sends := (M.pipes ob).sends ++ [(tk, now)] } }) ∧ Stp d d' w w' := by
  subst hop
  obtain ⟨W, eW, hB, hE, hZ⟩ := two_new w (evB ⟨tk, 14, ob, vl⟩) (ckB now)
  have hP := h.below hB
  have hLE : d.lab w.heap.size = (0, 0) := h.hi _ (Nat.le_refl _)
  have hLR : d.lab (w.heap.size + 1) = (0, 0) := h.hi _ (Nat.le_succ _)
  have HPd : Hid (PastAt hv W.drew d M) := hP.below (Below.refl _ _).drew
  have HSS : Hid (∀ (W' : World) (d1 : Dat) (M' : PastM), PastAt hv W' d1 M' → Stp d d1 W W' → (W'.cell? ⟨d.P, 0, none⟩ = some hv ∧ W'.cell? ⟨d.P, 1, none⟩ = some (.map (some d.Bt)) ∧ W'.cell? ⟨d.P, 2, none⟩ = some (.map (some d.Bp)) ∧ W'.cell? ⟨d.P, 3, none⟩ = some (.map (some d.Bl)) ∧ W'.cell? ⟨d.P, 4, none⟩ = some (.map (some d.Bg))) ∧ (W'.cell? ⟨w.heap.size, 0, none⟩ = some (.int .i64 tk) ∧ W'.cell? ⟨w.heap.size, 1, none⟩ = some (.int .i64 14) ∧ W'.cell? ⟨w.heap.size, 2, none⟩ = some (.int .i64 ob) ∧ W'.cell? ⟨w.heap.size, 3, none⟩ = some (.int .i64 vl)) ∧ W'.rangeAt (w.heap.size + 1) 0 (ckL now)) := fun W' d1 M' h1 h2 => ⟨h1.cellsP h2, ev_cells (h2.at hE hLE), range_block (l := []) (r := []) (by have := h2.at hZ hLR; simpa [ckB] using this)⟩
  have HWS : Hid (Stp d d w W) := Stp.of_below hB
  have HSD : Hid (Stp d d W W.drew) := Stp.of_below (Below.refl _ _).drew
  have HS0 := hide (unhide HSS W.drew d M (unhide HPd) (unhide HSD))
  obtain ⟨x0, x1, x2, x3⟩ := ev_cells hE
  have HE := hide eW
  have hu := Try.und65
  have hi : (Try.prog.info? 65).map (·.size) = some (ckL now).length := by rw [ckL_len]; exact Try.size65
  clear eW hB hE hZ hP hLE hLR h
  go_enter Try.func53, Try.ntmps53
  go_upto_region 1 with fail
  unfold evB ckB at HE
  rw [unhide HE]
  clear HE
  go_upto_region 5 with fail
  clear x0 x1 x2 x3
  go_region_held3 (fun W' => (W'.cell? ⟨d.P, 0, none⟩ = some hv ∧ W'.cell? ⟨d.P, 1, none⟩ = some (.map (some d.Bt)) ∧ W'.cell? ⟨d.P, 2, none⟩ = some (.map (some d.Bp)) ∧ W'.cell? ⟨d.P, 3, none⟩ = some (.map (some d.Bl)) ∧ W'.cell? ⟨d.P, 4, none⟩ = some (.map (some d.Bg))) ∧ (W'.cell? ⟨w.heap.size, 0, none⟩ = some (.int .i64 tk) ∧ W'.cell? ⟨w.heap.size, 1, none⟩ = some (.int .i64 14) ∧ W'.cell? ⟨w.heap.size, 2, none⟩ = some (.int .i64 ob) ∧ W'.cell? ⟨w.heap.size, 3, none⟩ = some (.int .i64 vl)) ∧ W'.rangeAt (w.heap.size + 1) 0 (ckL now))
    (first | exact unhide HS0 | exact unhide HS1 | exact unhide HS2 | exact unhide HS3)
    (first
      | (go_at_call 54; (with_reducible refine Calls.mono (found_p _ hv d M (unhide HPd) ob) ?_); rintro e w1 ⟨d1, b, rfl, hm, h1, h2⟩; have HP1 := hide h1; have HT1 := hide (Stp.trans (unhide HSD) h2); have HM1 := hide hm; have HS1 := hide (unhide HSS w1 d1 M h1 (unhide HT1)); clear h1 h2 hm)
      | (go_at_call 59; (with_reducible refine Calls.mono (keepSend_at _ hv d1 M (unhide HP1) ob b (unhide HM1) hsh tk now) ?_); rintro e w2 ⟨d2, rfl, h1, h2⟩; have HP2 := hide h1; have HT2 := hide ((unhide HT1).trans h2); have HS2 := hide (unhide HSS w2 d2 _ h1 (unhide HT2)); clear h1 h2))
  go_wp2_with fail
  exact bodyPost_end (v := .tuple #[]) (by simp [results, Try.results53]) rfl ⟨d2, rfl, unhide HP2, (unhide HWS).trans (unhide HT2)⟩

set_option maxRecDepth 100000 in
set_option maxHeartbeats 2000000 in
theorem keep18 (w : World) (hv : Value) (_hs : List Int) (d : Dat) (M : PastM) (tk op ob vl : Int) (now : Nat → Int) (hop : op = 18) (h : PastAt hv w d M) :
    Calls Try.prog 53 #[.pointer (some ⟨d.P, 0, none⟩), .agg #[.int .i64 tk, .int .i64 op, .int .i64 ob, .int .i64 vl], ckV now] w fun e w' => ∃ d', e = .returned (.tuple #[]) ∧ PastAt hv w' d' ({ M with locks := updI M.locks ob (unlockM (M.locks ob) vl now) }) ∧ Stp d d' w w' := by
  subst hop
  obtain ⟨W, eW, hB, hE, hZ⟩ := two_new w (evB ⟨tk, 18, ob, vl⟩) (ckB now)
  have hP := h.below hB
  have hLE : d.lab w.heap.size = (0, 0) := h.hi _ (Nat.le_refl _)
  have hLR : d.lab (w.heap.size + 1) = (0, 0) := h.hi _ (Nat.le_succ _)
  have HPd : Hid (PastAt hv W.drew d M) := hP.below (Below.refl _ _).drew
  have HSS : Hid (∀ (W' : World) (d1 : Dat) (M' : PastM), PastAt hv W' d1 M' → Stp d d1 W W' → (W'.cell? ⟨d.P, 0, none⟩ = some hv ∧ W'.cell? ⟨d.P, 1, none⟩ = some (.map (some d.Bt)) ∧ W'.cell? ⟨d.P, 2, none⟩ = some (.map (some d.Bp)) ∧ W'.cell? ⟨d.P, 3, none⟩ = some (.map (some d.Bl)) ∧ W'.cell? ⟨d.P, 4, none⟩ = some (.map (some d.Bg))) ∧ (W'.cell? ⟨w.heap.size, 0, none⟩ = some (.int .i64 tk) ∧ W'.cell? ⟨w.heap.size, 1, none⟩ = some (.int .i64 18) ∧ W'.cell? ⟨w.heap.size, 2, none⟩ = some (.int .i64 ob) ∧ W'.cell? ⟨w.heap.size, 3, none⟩ = some (.int .i64 vl)) ∧ W'.rangeAt (w.heap.size + 1) 0 (ckL now)) := fun W' d1 M' h1 h2 => ⟨h1.cellsP h2, ev_cells (h2.at hE hLE), range_block (l := []) (r := []) (by have := h2.at hZ hLR; simpa [ckB] using this)⟩
  have HWS : Hid (Stp d d w W) := Stp.of_below hB
  have HSD : Hid (Stp d d W W.drew) := Stp.of_below (Below.refl _ _).drew
  have HS0 := hide (unhide HSS W.drew d M (unhide HPd) (unhide HSD))
  obtain ⟨x0, x1, x2, x3⟩ := ev_cells hE
  have HE := hide eW
  have hu := Try.und65
  have hi : (Try.prog.info? 65).map (·.size) = some (ckL now).length := by rw [ckL_len]; exact Try.size65
  clear eW hB hE hZ hP hLE hLR h
  go_enter Try.func53, Try.ntmps53
  go_upto_region 1 with fail
  unfold evB ckB at HE
  rw [unhide HE]
  clear HE
  go_upto_region 13 with fail
  clear x0 x1 x2 x3
  go_region_held3 (fun W' => (W'.cell? ⟨d.P, 0, none⟩ = some hv ∧ W'.cell? ⟨d.P, 1, none⟩ = some (.map (some d.Bt)) ∧ W'.cell? ⟨d.P, 2, none⟩ = some (.map (some d.Bp)) ∧ W'.cell? ⟨d.P, 3, none⟩ = some (.map (some d.Bl)) ∧ W'.cell? ⟨d.P, 4, none⟩ = some (.map (some d.Bg))) ∧ (W'.cell? ⟨w.heap.size, 0, none⟩ = some (.int .i64 tk) ∧ W'.cell? ⟨w.heap.size, 1, none⟩ = some (.int .i64 18) ∧ W'.cell? ⟨w.heap.size, 2, none⟩ = some (.int .i64 ob) ∧ W'.cell? ⟨w.heap.size, 3, none⟩ = some (.int .i64 vl)) ∧ W'.rangeAt (w.heap.size + 1) 0 (ckL now))
    (first | exact unhide HS0 | exact unhide HS1 | exact unhide HS2 | exact unhide HS3)
    (first
      | (go_at_call 57; (with_reducible refine Calls.mono (found_l _ hv d M (unhide HPd) ob) ?_); rintro e w1 ⟨d1, b, rfl, hm, h1, h2⟩; have HP1 := hide h1; have HT1 := hide (Stp.trans (unhide HSD) h2); have HM1 := hide hm; have HS1 := hide (unhide HSS w1 d1 M h1 (unhide HT1)); clear h1 h2 hm)
      | (go_at_call 61; (with_reducible refine Calls.mono (unlock_at _ hv d1 M (unhide HP1) ob b (unhide HM1) vl now) ?_); rintro e w2 ⟨d2, rfl, h1, h2⟩; have HP2 := hide h1; have HT2 := hide ((unhide HT1).trans h2); have HS2 := hide (unhide HSS w2 d2 _ h1 (unhide HT2)); clear h1 h2))
  go_wp2_with fail
  exact bodyPost_end (v := .tuple #[]) (by simp [results, Try.results53]) rfl ⟨d2, rfl, unhide HP2, (unhide HWS).trans (unhide HT2)⟩

set_option maxRecDepth 100000 in
set_option maxHeartbeats 2000000 in
theorem keep19 (w : World) (hv : Value) (_hs : List Int) (d : Dat) (M : PastM) (tk op ob vl : Int) (now : Nat → Int) (hop : op = 19) (h : PastAt hv w d M) :
    Calls Try.prog 53 #[.pointer (some ⟨d.P, 0, none⟩), .agg #[.int .i64 tk, .int .i64 op, .int .i64 ob, .int .i64 vl], ckV now] w fun e w' => ∃ d', e = .returned (.tuple #[]) ∧ PastAt hv w' d' ({ M with groups := updI M.groups ob (joinC (M.groups ob) now) }) ∧ Stp d d' w w' := by
  subst hop
  obtain ⟨W, eW, hB, hE, hZ⟩ := two_new w (evB ⟨tk, 19, ob, vl⟩) (ckB now)
  have hP := h.below hB
  have hLE : d.lab w.heap.size = (0, 0) := h.hi _ (Nat.le_refl _)
  have hLR : d.lab (w.heap.size + 1) = (0, 0) := h.hi _ (Nat.le_succ _)
  have HPd : Hid (PastAt hv W.drew d M) := hP.below (Below.refl _ _).drew
  have HSS : Hid (∀ (W' : World) (d1 : Dat) (M' : PastM), PastAt hv W' d1 M' → Stp d d1 W W' → (W'.cell? ⟨d.P, 0, none⟩ = some hv ∧ W'.cell? ⟨d.P, 1, none⟩ = some (.map (some d.Bt)) ∧ W'.cell? ⟨d.P, 2, none⟩ = some (.map (some d.Bp)) ∧ W'.cell? ⟨d.P, 3, none⟩ = some (.map (some d.Bl)) ∧ W'.cell? ⟨d.P, 4, none⟩ = some (.map (some d.Bg))) ∧ (W'.cell? ⟨w.heap.size, 0, none⟩ = some (.int .i64 tk) ∧ W'.cell? ⟨w.heap.size, 1, none⟩ = some (.int .i64 19) ∧ W'.cell? ⟨w.heap.size, 2, none⟩ = some (.int .i64 ob) ∧ W'.cell? ⟨w.heap.size, 3, none⟩ = some (.int .i64 vl)) ∧ W'.rangeAt (w.heap.size + 1) 0 (ckL now)) := fun W' d1 M' h1 h2 => ⟨h1.cellsP h2, ev_cells (h2.at hE hLE), range_block (l := []) (r := []) (by have := h2.at hZ hLR; simpa [ckB] using this)⟩
  have HWS : Hid (Stp d d w W) := Stp.of_below hB
  have HSD : Hid (Stp d d W W.drew) := Stp.of_below (Below.refl _ _).drew
  have HS0 := hide (unhide HSS W.drew d M (unhide HPd) (unhide HSD))
  obtain ⟨x0, x1, x2, x3⟩ := ev_cells hE
  have HE := hide eW
  have hu := Try.und65
  have hi : (Try.prog.info? 65).map (·.size) = some (ckL now).length := by rw [ckL_len]; exact Try.size65
  clear eW hB hE hZ hP hLE hLR h
  go_enter Try.func53, Try.ntmps53
  go_upto_region 1 with fail
  unfold evB ckB at HE
  rw [unhide HE]
  clear HE
  go_upto_region 15 with fail
  clear x0 x1 x2 x3
  go_region_held3 (fun W' => (W'.cell? ⟨d.P, 0, none⟩ = some hv ∧ W'.cell? ⟨d.P, 1, none⟩ = some (.map (some d.Bt)) ∧ W'.cell? ⟨d.P, 2, none⟩ = some (.map (some d.Bp)) ∧ W'.cell? ⟨d.P, 3, none⟩ = some (.map (some d.Bl)) ∧ W'.cell? ⟨d.P, 4, none⟩ = some (.map (some d.Bg))) ∧ (W'.cell? ⟨w.heap.size, 0, none⟩ = some (.int .i64 tk) ∧ W'.cell? ⟨w.heap.size, 1, none⟩ = some (.int .i64 19) ∧ W'.cell? ⟨w.heap.size, 2, none⟩ = some (.int .i64 ob) ∧ W'.cell? ⟨w.heap.size, 3, none⟩ = some (.int .i64 vl)) ∧ W'.rangeAt (w.heap.size + 1) 0 (ckL now))
    (first | exact unhide HS0 | exact unhide HS1 | exact unhide HS2 | exact unhide HS3)
    (first
      | (go_at_call 50; (with_reducible refine Calls.mono (found_g _ hv d M (unhide HPd) ob) ?_); rintro e w1 ⟨d1, b, rfl, hm, h1, h2⟩; have HP1 := hide h1; have HT1 := hide (Stp.trans (unhide HSD) h2); have HM1 := hide hm; have HS1 := hide (unhide HSS w1 d1 M h1 (unhide HT1)); clear h1 h2 hm)
      | (go_at_call 51; (with_reducible refine Calls.mono (joinG_at _ hv d1 M (unhide HP1) ob b (unhide HM1) now) ?_); rintro e w2 ⟨d2, rfl, h1, h2⟩; have HP2 := hide h1; have HT2 := hide ((unhide HT1).trans h2); have HS2 := hide (unhide HSS w2 d2 _ h1 (unhide HT2)); clear h1 h2))
  go_wp2_with fail
  exact bodyPost_end (v := .tuple #[]) (by simp [results, Try.results53]) rfl ⟨d2, rfl, unhide HP2, (unhide HWS).trans (unhide HT2)⟩

set_option maxRecDepth 100000 in
set_option maxHeartbeats 2000000 in
theorem keep_else (w : World) (hv : Value) (d : Dat) (M : PastM) (tk op ob vl : Int) (now : Nat → Int) (h11 : op ≠ 11) (h14 : op ≠ 14) (h15 : op ≠ 15) (h16 : op ≠ 16) (h18 : op ≠ 18) (h19 : op ≠ 19) (h : PastAt hv w d M) :
    Calls Try.prog 53 #[.pointer (some ⟨d.P, 0, none⟩), .agg #[.int .i64 tk, .int .i64 op, .int .i64 ob, .int .i64 vl], ckV now] w fun e w' => ∃ d', e = .returned (.tuple #[]) ∧ PastAt hv w' d' M ∧ Stp d d' w w' := by
  obtain ⟨W, eW, hB, hE, hZ⟩ := two_new w (evB ⟨tk, op, ob, vl⟩) (ckB now)
  obtain ⟨x0, x1, x2, x3⟩ := ev_cells hE
  have b11 : (op == 11) = false := by simpa using h11
  have b14 : (op == 14) = false := by simpa using h14
  have b15 : (op == 15) = false := by simpa using h15
  have b16 : (op == 16) = false := by simpa using h16
  have b18 : (op == 18) = false := by simpa using h18
  have b19 : (op == 19) = false := by simpa using h19
  have HE := hide eW; have HB := hide hB; have HP := hide h
  clear eW hB hE hZ h h11 h14 h15 h16 h18 h19
  go_enter Try.func53, Try.ntmps53
  go_upto_region 1 with fail
  unfold evB ckB at HE
  rw [unhide HE]
  clear HE
  go_wp2_with fail
  exact bodyPost_end (v := .tuple #[]) (by simp [results, Try.results53]) rfl ⟨rfl, d, (unhide HP).below (unhide HB), Stp.of_below (unhide HB)⟩

end Go.Proofs.Ytbnmeeabpjmcoaa
