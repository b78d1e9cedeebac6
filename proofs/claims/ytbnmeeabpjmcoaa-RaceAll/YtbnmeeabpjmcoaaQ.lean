/-
  order.newPast; the method add of order.past.
-/
import Derived.Test.YtbnmeeabpjmcoaaP
namespace Go.Proofs.Ytbnmeeabpjmcoaa
open Go.RowKit

theorem maps_new (w : World) (hv : Value) : ∃ W, (((((w.alloc (.map #[] 0)).alloc (.map #[] 0)).alloc (.map #[] 0)).alloc (.map #[] 0)).alloc (.cells #[hv, .map (some w.heap.size), .map (some (w.heap.size + 1)), .map (some (w.heap.size + 1 + 1)), .map (some (w.heap.size + 1 + 1 + 1))] 99 (0, 0))) = W ∧ ∃ d : Dat, d.P = w.heap.size + 1 + 1 + 1 + 1 ∧ PastAt hv W d past0 ∧ Below w.heap.size w W ∧ ∀ j, j < w.heap.size → d.lab j = (0, 0) := by
  have hB : Below w.heap.size w (((((w.alloc (.map #[] 0)).alloc (.map #[] 0)).alloc (.map #[] 0)).alloc (.map #[] 0)).alloc (.cells #[hv, .map (some w.heap.size), .map (some (w.heap.size + 1)), .map (some (w.heap.size + 1 + 1)), .map (some (w.heap.size + 1 + 1 + 1))] 99 (0, 0))) := (((((Below.refl w.heap.size w).alloc (by simp) _).alloc (by simp) _).alloc (by simp; omega) _).alloc (by simp; omega) _).alloc (by simp; omega) _
  let lab : Nat → Nat × Int := fun j => if j = w.heap.size then (2, 0) else if j = w.heap.size + 1 then (3, 0) else if j = w.heap.size + 1 + 1 then (4, 0) else if j = w.heap.size + 1 + 1 + 1 then (5, 0) else if j = w.heap.size + 1 + 1 + 1 + 1 then (1, 0) else (0, 0)
  have m0 : (((((w.alloc (.map #[] 0)).alloc (.map #[] 0)).alloc (.map #[] 0)).alloc (.map #[] 0)).alloc (.cells #[hv, .map (some w.heap.size), .map (some (w.heap.size + 1)), .map (some (w.heap.size + 1 + 1)), .map (some (w.heap.size + 1 + 1 + 1))] 99 (0, 0))).heap[w.heap.size]? = some (.map #[] 0) := keep_alloc (keep_alloc (keep_alloc (keep_alloc (new_block w _) _) _) _) _
  have m1 : (((((w.alloc (.map #[] 0)).alloc (.map #[] 0)).alloc (.map #[] 0)).alloc (.map #[] 0)).alloc (.cells #[hv, .map (some w.heap.size), .map (some (w.heap.size + 1)), .map (some (w.heap.size + 1 + 1)), .map (some (w.heap.size + 1 + 1 + 1))] 99 (0, 0))).heap[w.heap.size + 1]? = some (.map #[] 0) := by
    have := keep_alloc (keep_alloc (keep_alloc (new_block (w.alloc (.map #[] 0)) (.map #[] 0)) (.map #[] 0)) (.map #[] 0)) (.cells #[hv, .map (some w.heap.size), .map (some (w.heap.size + 1)), .map (some (w.heap.size + 1 + 1)), .map (some (w.heap.size + 1 + 1 + 1))] 99 (0, 0))
    simpa only [World.size_alloc] using this
  have m2 : (((((w.alloc (.map #[] 0)).alloc (.map #[] 0)).alloc (.map #[] 0)).alloc (.map #[] 0)).alloc (.cells #[hv, .map (some w.heap.size), .map (some (w.heap.size + 1)), .map (some (w.heap.size + 1 + 1)), .map (some (w.heap.size + 1 + 1 + 1))] 99 (0, 0))).heap[w.heap.size + 1 + 1]? = some (.map #[] 0) := by
    have := keep_alloc (keep_alloc (new_block ((w.alloc (.map #[] 0)).alloc (.map #[] 0)) (.map #[] 0)) (.map #[] 0)) (.cells #[hv, .map (some w.heap.size), .map (some (w.heap.size + 1)), .map (some (w.heap.size + 1 + 1)), .map (some (w.heap.size + 1 + 1 + 1))] 99 (0, 0))
    simpa only [World.size_alloc] using this
  have m3 : (((((w.alloc (.map #[] 0)).alloc (.map #[] 0)).alloc (.map #[] 0)).alloc (.map #[] 0)).alloc (.cells #[hv, .map (some w.heap.size), .map (some (w.heap.size + 1)), .map (some (w.heap.size + 1 + 1)), .map (some (w.heap.size + 1 + 1 + 1))] 99 (0, 0))).heap[w.heap.size + 1 + 1 + 1]? = some (.map #[] 0) := by
    have := keep_alloc (new_block (((w.alloc (.map #[] 0)).alloc (.map #[] 0)).alloc (.map #[] 0)) (.map #[] 0)) (.cells #[hv, .map (some w.heap.size), .map (some (w.heap.size + 1)), .map (some (w.heap.size + 1 + 1)), .map (some (w.heap.size + 1 + 1 + 1))] 99 (0, 0))
    simpa only [World.size_alloc] using this
  have m4 : (((((w.alloc (.map #[] 0)).alloc (.map #[] 0)).alloc (.map #[] 0)).alloc (.map #[] 0)).alloc (.cells #[hv, .map (some w.heap.size), .map (some (w.heap.size + 1)), .map (some (w.heap.size + 1 + 1)), .map (some (w.heap.size + 1 + 1 + 1))] 99 (0, 0))).heap[w.heap.size + 1 + 1 + 1 + 1]? = some (.cells #[hv, .map (some w.heap.size), .map (some (w.heap.size + 1)), .map (some (w.heap.size + 1 + 1)), .map (some (w.heap.size + 1 + 1 + 1))] 99 (0, 0)) := by
    have := new_block ((((w.alloc (.map #[] 0)).alloc (.map #[] 0)).alloc (.map #[] 0)).alloc (.map #[] 0)) (.cells #[hv, .map (some w.heap.size), .map (some (w.heap.size + 1)), .map (some (w.heap.size + 1 + 1)), .map (some (w.heap.size + 1 + 1 + 1))] 99 (0, 0))
    simpa only [World.size_alloc] using this
  have l0 : lab w.heap.size = (2, 0) := if_pos rfl
  have l1 : lab (w.heap.size + 1) = (3, 0) := by show (if _ then _ else _) = _; rw [if_neg (by omega), if_pos rfl]
  have l2 : lab (w.heap.size + 1 + 1) = (4, 0) := by show (if _ then _ else _) = _; rw [if_neg (by omega), if_neg (by omega), if_pos rfl]
  have l3 : lab (w.heap.size + 1 + 1 + 1) = (5, 0) := by show (if _ then _ else _) = _; rw [if_neg (by omega), if_neg (by omega), if_neg (by omega), if_pos rfl]
  have l4 : lab (w.heap.size + 1 + 1 + 1 + 1) = (1, 0) := by show (if _ then _ else _) = _; rw [if_neg (by omega), if_neg (by omega), if_neg (by omega), if_neg (by omega), if_pos rfl]
  refine ⟨_, rfl, ⟨w.heap.size + 1 + 1 + 1 + 1, w.heap.size, w.heap.size + 1, w.heap.size + 1 + 1, w.heap.size + 1 + 1 + 1, [], [], [], [], lab, fun _ => .slice none 0 0, fun _ => .slice none 0 0⟩, rfl, ⟨m4, l4, ?_, ?_, ?_, ?_, fun j hj => ?_⟩, hB, fun j hj => ?_⟩
  · exact ⟨m0, l0, (fun k b hb => by cases hb), (fun k b b' hb => by cases hb), fun _ _ => rfl⟩
  · exact ⟨m1, l1, (fun k b hb => by cases hb), (fun k b b' hb => by cases hb), fun _ _ => rfl⟩
  · exact ⟨m2, l2, (fun k b hb => by cases hb), (fun k b b' hb => by cases hb), fun _ _ => rfl⟩
  · exact ⟨m3, l3, (fun k b hb => by cases hb), (fun k b b' hb => by cases hb), fun _ _ => rfl⟩
  · simp only [World.size_alloc] at hj
    show (if _ then _ else _) = _
    rw [if_neg (by omega), if_neg (by omega), if_neg (by omega), if_neg (by omega), if_neg (by omega)]
  · show (if _ then _ else _) = _
    rw [if_neg (by omega), if_neg (by omega), if_neg (by omega), if_neg (by omega), if_neg (by omega)]

set_option maxRecDepth 100000 in
set_option maxHeartbeats 2000000 in
theorem newPast_any (w : World) (a : Option Addr) (n c : Nat) :
    Calls Try.prog 43 #[.slice a n c] w fun e w' => ∃ d : Dat, e = .returned (.pointer (some ⟨d.P, 0, none⟩)) ∧ PastAt (.slice a n c) w' d past0 ∧ Below w.heap.size w w' ∧ ∀ j, j < w.heap.size → d.lab j = (0, 0) := by
  obtain ⟨W, eW, d, hd, h1, h2, h3⟩ := maps_new w (.slice a n c)
  have HE := hide eW; have HD := hide hd; have H1 := hide h1; have H2 := hide h2; have H3 := hide h3
  have hm1 : ∀ w : World, (Instr.makeMap 95 none).run Try.prog w = .ok (.map (some w.heap.size)) (w.alloc (.map #[] 0)) := fun _ => rfl
  have hm2 : ∀ w : World, (Instr.makeMap 96 none).run Try.prog w = .ok (.map (some w.heap.size)) (w.alloc (.map #[] 0)) := fun _ => rfl
  have hm3 : ∀ w : World, (Instr.makeMap 97 none).run Try.prog w = .ok (.map (some w.heap.size)) (w.alloc (.map #[] 0)) := fun _ => rfl
  clear eW hd h1 h2 h3
  go_enter Try.func43, Try.ntmps43
  go_wp2_with fail
  rw [unhide HE]
  go_ret
  exact ⟨d, by rw [unhide HD]; first | rfl | simp, unhide H1, unhide H2, unhide H3⟩

theorem now_def (hs : List Int) (M : PastM) (e : Ev) : nowM hs M e = updN (joinC (M.tasks e.task) (aheadM hs M e)) (plOf e) (joinC (M.tasks e.task) (aheadM hs M e) (plOf e) + 1) := rfl
theorem setT_join (M : PastM) (k : Int) (c v : Nat → Int) : ({ joinT M k c with tasks := updI (joinT M k c).tasks k v } : PastM) = setTM M k v := by
  have e : updI (updI M.tasks k (joinC (M.tasks k) c)) k v = updI M.tasks k v := by
    funext j
    unfold updI
    by_cases h : j = k <;> simp [h]
  show PastM.mk (updI (updI M.tasks k (joinC (M.tasks k) c)) k v) M.pipes M.locks M.groups = PastM.mk (updI M.tasks k v) M.pipes M.locks M.groups
  rw [e]
theorem ahead_all (w : World) (hv : Value) (hs : List Int) (d : Dat) (M : PastM) (tk op ob vl : Int) (P : Nat) (hP : d.P = P) (c : Nat → Int) (hc : aheadM hs M ⟨tk, op, ob, vl⟩ = c) (h : PastAt hv w d M) (hH : Holds hv w d hs) (hho : HoldsOk hs) (hsh : Short M) (he : EvOk hs ⟨tk, op, ob, vl⟩) :
    Calls Try.prog 52 #[.pointer (some ⟨P, 0, none⟩), .agg #[.int .i64 tk, .int .i64 op, .int .i64 ob, .int .i64 vl]] w fun r w' => ∃ d', r = .returned (ckV c) ∧ PastAt hv w' d' M ∧ Stp d d' w w' := by
  subst hP hc
  exact ahead_any w hv hs d M ⟨tk, op, ob, vl⟩ h hH hho hsh he
theorem keep_all (w : World) (hv : Value) (hs : List Int) (d : Dat) (M : PastM) (tk op ob vl : Int) (P : Nat) (hP : d.P = P) (now : Nat → Int) (h : PastAt hv w d M) (hH : Holds hv w d hs) (hsh : Short M) (he : EvOk hs ⟨tk, op, ob, vl⟩) :
    Calls Try.prog 53 #[.pointer (some ⟨P, 0, none⟩), .agg #[.int .i64 tk, .int .i64 op, .int .i64 ob, .int .i64 vl], ckV now] w fun r w' => ∃ d', r = .returned (.tuple #[]) ∧ PastAt hv w' d' (keepM hs M ⟨tk, op, ob, vl⟩ now) ∧ Stp d d' w w' := by
  subst hP
  exact keep_any w hv hs d M ⟨tk, op, ob, vl⟩ now h hH hsh he
theorem joinB_at (w : World) (hv : Value) (d : Dat) (M : PastM) (h : PastAt hv w d M) (k : Int) (b : Nat) (hm : (k, b) ∈ d.kt) (c : Nat → Int) :
    Calls Try.prog 51 #[.pointer (some ⟨b, 0, none⟩), ckV c] w fun e w' => e = .returned (.tuple #[]) ∧ PastAt hv w' d (joinT M k c) ∧ Stp d d w w' := by
  obtain ⟨hle, hlt, hc⟩ := h.t.ent k b hm
  refine (join_any w b 0 [] [] (M.tasks k) c _ rfl (clock_at hc)).mono ?_
  rintro e w' ⟨rfl, h1, h2⟩
  exact ⟨rfl, h.setT hm _ (at_clock h1) (Ch.of_but h2 hle), But.stp h2 hle (by simp)⟩
theorem ck_put {w : World} {b : Nat} {c : Nat → Int} (h : w.heap[b]? = some (ckB c)) {i : Nat} (hi : i < 64) (v : Int) : (w.setCell ⟨b, i, none⟩ (.int .i64 v)).heap[b]? = some (ckB (updN c i v)) := by
  have := ck_set (off := 0) (clock_at h) rfl hi v
  rw [Nat.zero_add] at this
  exact at_clock this
theorem ck_get {w : World} {b : Nat} {c : Nat → Int} (h : w.heap[b]? = some (ckB c)) {i : Nat} (hi : i < 64) : w.cell? ⟨b, i, none⟩ = some (.int .i64 (c i)) ∧ w.frozen? ⟨b, i, none⟩ = false := by
  have := ck_cell (off := 0) (clock_at h) rfl hi
  rwa [Nat.zero_add] at this

set_option maxRecDepth 100000 in
set_option maxHeartbeats 4000000 in
theorem add_any (w : World) (hv : Value) (hs : List Int) (d : Dat) (M : PastM) (tk op ob vl : Int) (h : PastAt hv w d M) (hH : Holds hv w d hs) (hho : HoldsOk hs) (hsh : Short M) (he : EvOk hs ⟨tk, op, ob, vl⟩) (x : Int) (pl : Nat) (hpl : tk = (pl : Int) + 1) (hp64 : pl < 64) (hx : joinC (M.tasks tk) (aheadM hs M ⟨tk, op, ob, vl⟩) pl = x) (hx0 : 0 ≤ x) (hx1 : x ≤ 1000000) (now : Nat → Int) (hnow : nowM hs M ⟨tk, op, ob, vl⟩ = now) :
    Calls Try.prog 44 #[.pointer (some ⟨d.P, 0, none⟩), .agg #[.int .i64 tk, .int .i64 op, .int .i64 ob, .int .i64 vl]] w fun r w' => ∃ d', r = .returned (ckV now) ∧ PastAt hv w' d' (addM hs M ⟨tk, op, ob, vl⟩) ∧ Stp d d' w w' := by
  obtain ⟨W, eW, hB, hE, hZ⟩ := two_new w (evB ⟨tk, op, ob, vl⟩) (ckB ck0)
  have hP := h.below hB
  have hLE : d.lab w.heap.size = (0, 0) := h.hi _ (Nat.le_refl _)
  have hLR : d.lab (w.heap.size + 1) = (0, 0) := h.hi _ (Nat.le_succ _)
  have HPd : Hid (PastAt hv W.drew d M) := hP.below (Below.refl _ _).drew
  have HWS : Hid (Stp d d w W) := Stp.of_below hB
  have HSD : Hid (Stp d d W W.drew) := Stp.of_below (Below.refl _ _).drew
  have HSS : Hid (∀ (W' : World) (d1 : Dat) (M' : PastM), PastAt hv W' d1 M' → Stp d d1 W W' → (W'.cell? ⟨d.P, 0, none⟩ = some hv ∧ W'.cell? ⟨d.P, 1, none⟩ = some (.map (some d.Bt)) ∧ W'.cell? ⟨d.P, 2, none⟩ = some (.map (some d.Bp)) ∧ W'.cell? ⟨d.P, 3, none⟩ = some (.map (some d.Bl)) ∧ W'.cell? ⟨d.P, 4, none⟩ = some (.map (some d.Bg))) ∧ (W'.cell? ⟨w.heap.size, 0, none⟩ = some (.int .i64 tk) ∧ W'.cell? ⟨w.heap.size, 1, none⟩ = some (.int .i64 op) ∧ W'.cell? ⟨w.heap.size, 2, none⟩ = some (.int .i64 ob) ∧ W'.cell? ⟨w.heap.size, 3, none⟩ = some (.int .i64 vl))) := fun W' d1 M' h1 h2 => ⟨h1.cellsP h2, ev_cells (h2.at hE hLE)⟩
  have HS0 := hide (unhide HSS W.drew d M (unhide HPd) (unhide HSD))
  have HZK : Hid (∀ (W' : World) (d1 : Dat), Stp d d1 W W' → W'.heap[w.heap.size + 1]? = some (ckB ck0) ∧ d1.lab (w.heap.size + 1) = (0, 0) ∧ W'.heap[w.heap.size]? = some (evB ⟨tk, op, ob, vl⟩)) := fun W' d1 h2 => ⟨h2.at hZ hLR, (h2.lab _ (size_of hZ)).trans hLR, h2.at hE hLE⟩
  have HHS : Hid (∀ (W' : World) (d1 : Dat), Stp d d1 W W' → Holds hv W' d1 hs) := fun W' d1 h2 => hH.stp ((Stp.of_below hB).trans h2)
  obtain ⟨AH, eAH⟩ : ∃ X, aheadM hs M ⟨tk, op, ob, vl⟩ = X := ⟨_, rfl⟩
  rw [eAH] at hx
  have HAH := hide eAH
  clear eAH
  have HE := hide eW; have HX := hide hx; have HEV := hide he; have HNW := hide hnow
  have wr : IntKind.i64.wrap (tk - 1) = (pl : Int) := by rw [hpl, show (pl : Int) + 1 - 1 = (pl : Int) by omega]; exact wrapi (by omega) (by omega)
  have i0 : (0 : Int) ≤ (pl : Int) := by omega
  have i1 : (pl : Int) < 64 := by omega
  have hplo : plOf ⟨tk, op, ob, vl⟩ = pl := by unfold plOf; dsimp only; omega
  have HPL := hide hplo
  have wx : IntKind.i64.wrap (x + 1) = x + 1 := wrapi (by omega) (by omega)
  obtain ⟨x0, x1, x2, x3⟩ := ev_cells hE
  have hu := Try.und65
  clear eW hB hE hZ hP hLE hLR h hx he hH hnow hplo hpl
  go_enter Try.func44, Try.ntmps44
  go_upto_region 1 with fail
  rw [ck0_arr]
  unfold evB ckB at HE
  rw [unhide HE]
  clear HE x0 x1 x2 x3
  go_region_held3 (fun W' => (W'.cell? ⟨d.P, 0, none⟩ = some hv ∧ W'.cell? ⟨d.P, 1, none⟩ = some (.map (some d.Bt)) ∧ W'.cell? ⟨d.P, 2, none⟩ = some (.map (some d.Bp)) ∧ W'.cell? ⟨d.P, 3, none⟩ = some (.map (some d.Bl)) ∧ W'.cell? ⟨d.P, 4, none⟩ = some (.map (some d.Bg))) ∧ (W'.cell? ⟨w.heap.size, 0, none⟩ = some (.int .i64 tk) ∧ W'.cell? ⟨w.heap.size, 1, none⟩ = some (.int .i64 op) ∧ W'.cell? ⟨w.heap.size, 2, none⟩ = some (.int .i64 ob) ∧ W'.cell? ⟨w.heap.size, 3, none⟩ = some (.int .i64 vl)))
    (first | exact unhide HS0 | exact unhide HS1)
    (first
      | (go_at_call 50; (with_reducible refine Calls.mono (found_t _ hv d M (unhide HPd) tk) ?_); rintro e w1 ⟨d1, b, rfl, hm, h1, h2⟩; have HP1 := hide h1; have HT1 := hide (Stp.trans (unhide HSD) h2); have HM1 := hide hm; have HS1 := hide (unhide HSS w1 d1 M h1 (unhide HT1)); clear h1 h2 hm))
  obtain ⟨-, x0, x1, x2, x3⟩ := unhide HS1
  have HDP1 : Hid (d1.P = d.P) := (unhide HT1).P
  go_upto_region 3 with (first
    | (go_at_call 52; (with_reducible refine Calls.mono (ahead_all _ hv hs d1 M tk op ob vl d.P (unhide HDP1) AH (unhide HAH) (unhide HP1) (unhide HHS _ _ (unhide HT1)) hho hsh (unhide HEV)) ?_); rintro e w2 ⟨d2, rfl, h1, h2⟩; have HP2 := hide h1; have HT2 := hide ((unhide HT1).trans h2); have HKT := hide (h2.kt _ (unhide HM1)); clear h1 h2)
    | (go_at_call 51; (with_reducible refine Calls.mono (joinB_at _ hv d2 M (unhide HP2) tk b (unhide HKT) AH) ?_); rintro e w3 ⟨rfl, h1, h2⟩; have HP3 := hide h1; have HT3 := hide ((unhide HT2).trans h2); clear h1 h2))
  -- mine[e.Task-1]++
  obtain ⟨hle3, hlt3, hc3⟩ := (unhide HP3).t.ent tk b (unhide HKT)
  have hc3' : w3.heap[b]? = some (ckB (joinC (M.tasks tk) AH)) := by have h0 := hc3; unfold joinT at h0; dsimp only at h0; rwa [updI_same] at h0
  obtain ⟨c0, f0⟩ := ck_get hc3' hp64
  rw [unhide HX] at c0
  have hpu : (w3.setCell ⟨b, pl, none⟩ (.int .i64 (x + 1))).heap[b]? = some (ckB now) := by have h0 := ck_put hc3' hp64 (x + 1); rw [← unhide HNW, now_def, unhide HPL, unhide HAH, unhide HX]; exact h0
  have hbu : But b w3 (w3.setCell ⟨b, pl, none⟩ (.int .i64 (x + 1))) := (But.refl b w3).set _
  have hP4 := (unhide HP3).setT (unhide HKT) now hpu (Ch.of_but hbu hle3)
  rw [setT_join] at hP4
  have HP4 := hide hP4
  have HT4 := hide ((unhide HT3).trans (But.stp hbu hle3 (by simp)))
  have HC4 := hide hpu
  obtain ⟨-, y0, y1, y2, y3⟩ := unhide HSS w3 d2 _ (unhide HP3) (unhide HT3)
  clear x0 x1 x2 x3 hc3 hc3' hpu hbu hP4 hle3 HS0 HS1 HPd HP1 HP2 HT1 HT2 HP3 HM1
  go_region
  have HP4b := hide ((unhide HP4).below (Below.refl _ _).drew); have HT4b := hide ((unhide HT4).call (Below.refl _ _).drew); have HC4b := hide ((drew_at _ _).trans (unhide HC4))
  obtain ⟨W4, e4⟩ : ∃ X, (w3.setCell ⟨b, pl, none⟩ (.int .i64 (x + 1))).drew = X := ⟨_, rfl⟩
  rw [e4] at HP4b HT4b HC4b ⊢
  clear e4 HP4 HT4 HC4 c0 f0 y0 y1 y2 y3 HT3 hlt3
  -- now := *mine
  obtain ⟨V, eV, hBV, hZV⟩ := res_new W4
  obtain ⟨W5, e5, hB5, hZ5⟩ := res_put hBV (Nat.le_refl _) hZV now
  have HRb : Hid (W4.rangeAt b 0 (ckL now)) := range_block (l := []) (r := []) (by have := unhide HC4b; simpa [ckB] using this)
  have HRb2 : Hid (V.rangeAt b 0 (ckL now)) := range_block (l := []) (r := []) (by have := keep_below (unhide HC4b) hBV; simpa [ckB] using this)
  have HEV5 := hide eV; have HZV := hide hZV; have HE5 := hide e5
  have HP5 := hide ((unhide HP4b).below hB5); have HT5 := hide ((unhide HT4b).call hB5)
  have HL5 : Hid (d2.lab W4.heap.size = (0, 0)) := (unhide HP4b).hi _ (Nat.le_refl _)
  have HZ5 := hide hZ5
  have HR5 : Hid (W5.rangeAt W4.heap.size 0 (ckL now)) := range_block (l := []) (r := []) (by simpa [ckB] using hZ5)
  obtain ⟨-, y0, y1, y2, y3⟩ := unhide HSS W5 d2 _ (unhide HP5) (unhide HT5)
  have HDP2 : Hid (d2.P = d.P) := (unhide HT5).P
  have HH5 := hide (unhide HHS _ _ (unhide HT5))
  have HSH : Hid (Short (setTM M tk now)) := hsh
  clear eV hBV hZV e5 hB5 hZ5 HC4b hu
  go_upto_region 5 with (first | (refine wpList_load_mid rfl _ _ rfl _ _ rfl (ckL now) _ (unhide HRb) Try.und65 rfl (by rw [ckL_len]; exact Try.size65) ?_) | (rw [ck0_arr, unhide HEV5]; refine wpList_store_mid rfl _ _ _ rfl _ _ (ckL now).toArray rfl rfl (ckB_there (unhide HZV) _) (by simpa [ckL_len] using Try.size65) (ckL_all _) ?_; rw [unhide HE5]))
  clear HRb HRb2 HEV5 HZV HE5
  go_upto_region 6 with (first
    | (refine wpList_load_mid rfl _ _ rfl _ _ rfl (ckL now) _ (unhide HR5) Try.und65 rfl (by rw [ckL_len]; exact Try.size65) ?_)
    | (go_at_call 53; (with_reducible refine Calls.mono (keep_all _ hv hs d2 (setTM M tk now) tk op ob vl d.P (unhide HDP2) now (unhide HP5) (unhide HH5) (unhide HSH) (unhide HEV)) ?_); rintro e w6 ⟨d6, rfl, h1, h2⟩; have HP6 := hide h1; have HT6 := hide ((unhide HT5).trans h2); have HZ6 := hide (h2.at (unhide HZ5) (unhide HL5)); clear h1 h2))
  obtain ⟨hz6, hl6, -⟩ := unhide HZK w6 d6 (unhide HT6)
  have HR6 : Hid (w6.rangeAt W4.heap.size 0 (ckL now)) := range_block (l := []) (r := []) (by have := unhide HZ6; simpa [ckB] using this)
  have HZZ := hide hz6
  have HZ7 := hide (ckB_put hz6 now); have HP7 := hide ((unhide HP6).aside (o := 0) (ckL now) hl6); have HT7 := hide (((unhide HWS).trans (unhide HT6)).aside (o := 0) (ckL now) (Nat.le_succ _))
  obtain ⟨W7, e7⟩ : ∃ X, w6.setCells (w.heap.size + 1) 0 (ckL now) = X := ⟨_, rfl⟩
  have HE7 : Hid (w6.setCells (w.heap.size + 1) 0 (ckL now).toArray.toList = W7) := e7
  rw [e7] at HP7 HT7
  rw [unhide HE7] at HZ7
  clear hz6 hl6 e7 y0 y1 y2 y3 HP5 HT5 HP6 HT6 HP4b HT4b
  go_wp2_with (first | (refine wpList_load_mid rfl _ _ rfl _ _ rfl (ckL now) _ (unhide HR6) Try.und65 rfl (by rw [ckL_len]; exact Try.size65) ?_) | (refine wpList_store_mid rfl _ _ _ rfl _ _ (ckL now).toArray rfl rfl (ckB_there (unhide HZZ) _) (by simpa [ckL_len] using Try.size65) (ckL_all _) ?_; rw [unhide HE7]))
  have hfin : PastAt hv W7 d6 (addM hs M ⟨tk, op, ob, vl⟩) := by have := unhide HP7; unfold addM; rw [unhide HNW]; exact this
  exact bodyPost_ret (ret_ck (f := Try.f44) Try.results44 _ _ (w.heap.size + 1) now rfl (unhide HZ7)) rfl (by first | exact ⟨d6, rfl, hfin, unhide HT7⟩ | exact ⟨rfl, d6, hfin, unhide HT7⟩)

end Go.Proofs.Ytbnmeeabpjmcoaa
