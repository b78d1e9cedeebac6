/-
  The function that clock.Check hands over; clock.Check.
-/
import Derived.Test.YtidpmcanfedbdaaH
namespace Go.Proofs.Ytidpmcanfedbdaa
open Go.RowKit

def ids (xs : List Al) : List Int := xs.map (fun p => p.1)
def seqs (xs : List Al) : List Int := xs.map (fun p => p.2.2.2)
theorem ids_append (a b : List Al) : ids (a ++ b) = ids a ++ ids b := List.map_append
theorem seqs_append (a b : List Al) : seqs (a ++ b) = seqs a ++ seqs b := List.map_append
/-- What is wrong with an alarm behind others. -/
def alP (now next : Int) (pre : List Al) (x : Al) : Int := if oor now next x = true then 3 else if ((ids pre).contains x.1 || (seqs pre).contains x.2.2.2) = true then 10 else if 0 < pre.length ∧ ahead x (aAt pre (pre.length - 1)) = true then 5 else 0

/-- What the function that is handed over finds in memory: the clock, the two sets and the variables that they lie in. -/
structure Chk (M C N E G : Nat) (now next : Int) (vl : Value) (is ss : List Int) (W : World) : Prop where
  s1 : IsSet W M is
  b1 : W.heap[C]? = some (.cells #[.map (some M)] 58 (0, 0))
  s2 : IsSet W N ss
  b2 : W.heap[E]? = some (.cells #[.map (some N)] 58 (0, 0))
  bc : W.heap[G]? = some (.cells #[.int .i64 now, .int .i64 next, vl] 24 (0, 0))
theorem Chk.below {M C N E G : Nat} {now next : Int} {vl : Value} {is ss : List Int} {W W' : World} (h : Chk M C N E G now next vl is ss W) (hb : Below W.heap.size W W') : Chk M C N E G now next vl is ss W' :=
  ⟨h.s1.below hb, keep_below h.b1 hb, h.s2.below hb, keep_below h.b2 hb, keep_below h.bc hb⟩
theorem cells_no_map {W : World} {C M : Nat} {arr : Array Value} {t : TypeId} {f : Nat × Nat} {ks : List Int} (h : W.heap[C]? = some (.cells arr t f)) (hs : IsSet W M ks) : C ≠ M := by
  rintro rfl
  unfold IsSet at hs
  rw [h] at hs
  cases hs
theorem Chk.add1 {M C N E G : Nat} {now next : Int} {vl : Value} {is ss : List Int} {W : World} (h : Chk M C N E G now next vl is ss W) (hMN : N ≠ M) (x : Int) : Chk M C N E G now next vl (is ++ [x]) ss (putObj W M (.map (setEnts (is ++ [x])) (is ++ [x]).length)) :=
  ⟨IsSet.put h.s1.lt, (heap_putObj _ (cells_no_map h.b1 h.s1)).trans h.b1, (heap_putObj _ hMN).trans h.s2, (heap_putObj _ (cells_no_map h.b2 h.s1)).trans h.b2, (heap_putObj _ (cells_no_map h.bc h.s1)).trans h.bc⟩
theorem Chk.add2 {M C N E G : Nat} {now next : Int} {vl : Value} {is ss : List Int} {W : World} (h : Chk M C N E G now next vl is ss W) (hMN : M ≠ N) (x : Int) : Chk M C N E G now next vl is (ss ++ [x]) (putObj W N (.map (setEnts (ss ++ [x])) (ss ++ [x]).length)) :=
  ⟨(heap_putObj _ hMN).trans h.s1, (heap_putObj _ (cells_no_map h.b1 h.s2)).trans h.b1, IsSet.put h.s2.lt, (heap_putObj _ (cells_no_map h.b2 h.s2)).trans h.b2, (heap_putObj _ (cells_no_map h.bc h.s2)).trans h.bc⟩
theorem enters_check : ∀ args w, (callFunc 25 args).run Try.prog w = .ok (.enter 25 args) w := fun _ _ => by kernel_rfl

set_option maxRecDepth 100000 in
set_option maxHeartbeats 4000000 in
theorem check1_any (w : World) (M C N E G : Nat) (now next : Int) (a0 : Option Addr) (n c0 : Nat) (xs pre : List Al) (t c u y : Int) (hS : Chk M C N E G now next (.slice a0 n c0) (ids pre) (seqs pre) w) (hMN : M ≠ N) (hL : IsL KA w (.slice a0 n c0) xs) (hp : ∃ r, xs = pre ++ (t, c, u, y) :: r) (hn : n ≤ 5000)
    (h0 : 0 ≤ now) (h1 : now ≤ 1000000000) (h2 : 0 ≤ next) (h3 : next ≤ 1000000000) :
    Calls Try.prog 25 #[.int .i64 (pre.length : Int), .agg #[.int .i64 t, .int .i64 c, .int .i64 u, .int .i64 y], .pointer (some ⟨G, 0, none⟩), .pointer (some ⟨C, 0, none⟩), .pointer (some ⟨E, 0, none⟩)] w fun e w' => e = .returned (.int .i64 (alP now next pre (t, c, u, y))) ∧ But2 M N w w' ∧ (alP now next pre (t, c, u, y) = 0 → Chk M C N E G now next (.slice a0 n c0) (ids (pre ++ [(t, c, u, y)])) (seqs (pre ++ [(t, c, u, y)])) w') := by
  have ei : ids (pre ++ [(t, c, u, y)]) = ids pre ++ [t] := by rw [ids_append]; rfl
  have es : seqs (pre ++ [(t, c, u, y)]) = seqs pre ++ [y] := by rw [seqs_append]; rfl
  rw [ei, es]
  have hlen : xs.length = n := hL.len
  have hpl : pre.length < n := by
    obtain ⟨r, hr⟩ := hp
    rw [← hlen, hr]
    simp
  have hlast : 0 < pre.length → aAt xs (pre.length - 1) = aAt pre (pre.length - 1) := fun hp0 => by
    obtain ⟨r, hr⟩ := hp
    unfold aAt
    rw [hr, List.getD_eq_getElem?_getD, List.getD_eq_getElem?_getD, List.getElem?_append_left (by omega)]
  obtain ⟨R, eR⟩ : ∃ R, alP now next pre (t, c, u, y) = R := ⟨_, rfl⟩
  rw [eR]
  unfold alP at eR
  simp only at eR
  obtain ⟨is, eis⟩ : ∃ is, ids pre = is := ⟨_, rfl⟩
  obtain ⟨ss, ess⟩ : ∃ ss, seqs pre = ss := ⟨_, rfl⟩
  rw [eis, ess] at hS eR ⊢
  obtain ⟨lx, elx⟩ : ∃ lx, aAt pre (pre.length - 1) = lx := ⟨_, rfl⟩
  rw [elx] at eR hlast
  obtain ⟨m, em⟩ : ∃ m, pre.length = m := ⟨_, rfl⟩
  rw [em] at eR hpl hlast ⊢
  have HR := hide eR; have HLA := hide hlast
  have HOR := hide (fun W => outOfRange_any W (.slice a0 n c0) now next t c u y h0 h1 h2 h3)
  have HMN := hide hMN
  have HX := hide ((Below.refl w.heap.size w).alloc (Nat.le_refl _) (.cells #[.int .i64 t, .int .i64 c, .int .i64 u, .int .i64 y] 42))
  have HP := hide (new_block w (.cells #[.int .i64 t, .int .i64 c, .int .i64 u, .int .i64 y] 42))
  have HS := hide (hS.below (unhide HX))
  have HL := hide (hL.below (unhide HX))
  have HLN := hide hlen
  clear hS eR ei es hMN hL hp hlen hlast eis ess em elx h0 h1 h2 h3
  go_enter Try.func25, Try.ntmps25
  go_upto_region 1 with fail
  obtain ⟨W0, e0⟩ : ∃ W, w.alloc (.cells #[.int .i64 t, .int .i64 c, .int .i64 u, .int .i64 y] 42) = W := ⟨_, rfl⟩
  rw [e0] at HX HP HS HL ⊢
  clear e0
  obtain ⟨⟨p0, p1, p2, p3⟩, -, pl⟩ := block4 (unhide HP)
  obtain ⟨⟨q0, q1, q2⟩, -, ql⟩ := block3 (unhide HS).bc
  obtain ⟨r0, -, rl⟩ := block1 (unhide HS).b1
  obtain ⟨s0, -, sl⟩ := block1 (unhide HS).b2
  obtain ⟨O, eO⟩ : ∃ O, oor now next (t, c, u, y) = O := ⟨_, rfl⟩
  have HR0 := unhide HR
  rw [eO] at HOR HR0
  have HR1 := hide HR0
  clear HR0 HR eO
  cases O with
  | true =>
    have hr := unhide HR1
    rw [if_pos rfl] at hr
    subst hr
    clear HR1
    go_wp2_with (go_at_call 26; refine (unhide HOR W0).mono ?_; rintro e w1 ⟨rfl, hb1⟩; have HX1 := hide (Below.next (unhide HX) hb1 (Nat.le_refl _)); have HP1 := hide (keep_below (unhide HP) hb1); have HS1 := hide ((unhide HS).below hb1); have HL1 := hide ((unhide HL).below hb1); clear hb1 HX HP HS HL; clear p0 p1 p2 p3 pl q0 q1 q2 ql r0 rl s0 sl; obtain ⟨⟨p0, p1, p2, p3⟩, -, pl⟩ := block4 (unhide HP1); obtain ⟨⟨q0, q1, q2⟩, -, ql⟩ := block3 (unhide HS1).bc; obtain ⟨r0, -, rl⟩ := block1 (unhide HS1).b1; obtain ⟨s0, -, sl⟩ := block1 (unhide HS1).b2)
    go_ret
    exact ⟨rfl, But2.of_below (unhide HX1), fun h => by cases h⟩
  | false =>
  have hr := unhide HR1
  rw [if_neg (by simp)] at hr
  have HR2 := hide hr
  clear HR1 hr
  have HH1 := hide (fun W (h : IsSet W M is) => sethas_any W M is t h)
  have HH2 := hide (fun W (h : IsSet W N ss) => sethas_any W N ss y h)
  obtain ⟨B1, eB1⟩ : ∃ B, is.contains t = B := ⟨_, rfl⟩
  obtain ⟨B2, eB2⟩ : ∃ B, ss.contains y = B := ⟨_, rfl⟩
  rw [eB1] at HH1; rw [eB2] at HH2
  have hr := unhide HR2
  rw [eB1, eB2] at hr
  have HR3 := hide hr; have HQ1 := hide eB1; have HQ2 := hide eB2
  clear hr HR2 eB1 eB2
  cases B1 with
  | true =>
    have hr := unhide HR3
    rw [if_pos (by simp)] at hr
    subst hr
    clear HR3
    go_wp2_with (first | (go_at_call 26; refine (unhide HOR W0).mono ?_; rintro e w1 ⟨rfl, hb1⟩; have HX1 := hide (Below.next (unhide HX) hb1 (Nat.le_refl _)); have HP1 := hide (keep_below (unhide HP) hb1); have HS1 := hide ((unhide HS).below hb1); have HL1 := hide ((unhide HL).below hb1); clear hb1 HX HP HS HL; clear p0 p1 p2 p3 pl q0 q1 q2 ql r0 rl s0 sl; obtain ⟨⟨p0, p1, p2, p3⟩, -, pl⟩ := block4 (unhide HP1); obtain ⟨⟨q0, q1, q2⟩, -, ql⟩ := block3 (unhide HS1).bc; obtain ⟨r0, -, rl⟩ := block1 (unhide HS1).b1; obtain ⟨s0, -, sl⟩ := block1 (unhide HS1).b2) | (go_at_call 27; (with_reducible refine Calls.mono (unhide HH1 _ (unhide HS1).s1) ?_); rintro e w2 ⟨rfl, hb2⟩; have HX2 := hide (Below.next (unhide HX1) hb2 (Nat.le_refl _)); have HP2 := hide (keep_below (unhide HP1) hb2); have HS2 := hide ((unhide HS1).below hb2); have HL2 := hide ((unhide HL1).below hb2); clear hb2 HX1 HP1 HS1 HL1; clear p0 p1 p2 p3 pl q0 q1 q2 ql r0 rl s0 sl; obtain ⟨⟨p0, p1, p2, p3⟩, -, pl⟩ := block4 (unhide HP2); obtain ⟨⟨q0, q1, q2⟩, -, ql⟩ := block3 (unhide HS2).bc; obtain ⟨r0, -, rl⟩ := block1 (unhide HS2).b1; obtain ⟨s0, -, sl⟩ := block1 (unhide HS2).b2))
    go_ret
    exact ⟨rfl, But2.of_below (unhide HX2), fun h => by cases h⟩
  | false =>
  cases B2 with
  | true =>
    have hr := unhide HR3
    rw [if_pos (by simp)] at hr
    subst hr
    clear HR3
    go_wp2_with (first | (go_at_call 26; refine (unhide HOR W0).mono ?_; rintro e w1 ⟨rfl, hb1⟩; have HX1 := hide (Below.next (unhide HX) hb1 (Nat.le_refl _)); have HP1 := hide (keep_below (unhide HP) hb1); have HS1 := hide ((unhide HS).below hb1); have HL1 := hide ((unhide HL).below hb1); clear hb1 HX HP HS HL; clear p0 p1 p2 p3 pl q0 q1 q2 ql r0 rl s0 sl; obtain ⟨⟨p0, p1, p2, p3⟩, -, pl⟩ := block4 (unhide HP1); obtain ⟨⟨q0, q1, q2⟩, -, ql⟩ := block3 (unhide HS1).bc; obtain ⟨r0, -, rl⟩ := block1 (unhide HS1).b1; obtain ⟨s0, -, sl⟩ := block1 (unhide HS1).b2) | (go_at_call 27; (with_reducible refine Calls.mono (unhide HH1 _ (unhide HS1).s1) ?_); rintro e w2 ⟨rfl, hb2⟩; have HX2 := hide (Below.next (unhide HX1) hb2 (Nat.le_refl _)); have HP2 := hide (keep_below (unhide HP1) hb2); have HS2 := hide ((unhide HS1).below hb2); have HL2 := hide ((unhide HL1).below hb2); clear hb2 HX1 HP1 HS1 HL1; clear p0 p1 p2 p3 pl q0 q1 q2 ql r0 rl s0 sl; obtain ⟨⟨p0, p1, p2, p3⟩, -, pl⟩ := block4 (unhide HP2); obtain ⟨⟨q0, q1, q2⟩, -, ql⟩ := block3 (unhide HS2).bc; obtain ⟨r0, -, rl⟩ := block1 (unhide HS2).b1; obtain ⟨s0, -, sl⟩ := block1 (unhide HS2).b2) | (go_at_call 27; (with_reducible refine Calls.mono (unhide HH2 _ (unhide HS2).s2) ?_); rintro e w3 ⟨rfl, hb3⟩; have HX3 := hide (Below.next (unhide HX2) hb3 (Nat.le_refl _)); have HP3 := hide (keep_below (unhide HP2) hb3); have HS3 := hide ((unhide HS2).below hb3); have HL3 := hide ((unhide HL2).below hb3); clear hb3 HX2 HP2 HS2 HL2; clear p0 p1 p2 p3 pl q0 q1 q2 ql r0 rl s0 sl; obtain ⟨⟨p0, p1, p2, p3⟩, -, pl⟩ := block4 (unhide HP3); obtain ⟨⟨q0, q1, q2⟩, -, ql⟩ := block3 (unhide HS3).bc; obtain ⟨r0, -, rl⟩ := block1 (unhide HS3).b1; obtain ⟨s0, -, sl⟩ := block1 (unhide HS3).b2))
    go_ret
    exact ⟨rfl, But2.of_below (unhide HX3), fun h => by cases h⟩
  | false =>
  have hr := unhide HR3
  rw [if_neg (by simp)] at hr
  have HR4 := hide hr
  clear hr HR3
  have HA1 := hide (fun W (h : IsSet W M is) => setadd_any W M is t h (unhide HQ1))
  have HA2 := hide (fun W (h : IsSet W N ss) => setadd_any W N ss y h (unhide HQ2))
  by_cases hm : 0 < m
  · obtain ⟨lt, lc, lu, ly⟩ := lx
    obtain ⟨k, ek⟩ : ∃ k, m - 1 = k := ⟨_, rfl⟩
    have hla := unhide HLA hm
    rw [ek] at hla
    have HLB := hide hla
    have i0 : (0 : Int) < (m : Int) := by omega
    have hw1 : IntKind.i64.wrap ((m : Int) - 1) = (k : Int) := by rw [wrapi (by omega) (by omega)]; omega
    have i1 : (0 : Int) ≤ (k : Int) := by omega
    have i2 : (k : Int) < (n : Int) := by omega
    have HO := hide (((unhide HL).opens ka (unhide HLN)) (by omega))
    obtain ⟨b0, o0, rfl, -, -⟩ := unhide HO
    have hkx : k < xs.length := by rw [unhide HLN]; omega
    have HKX := hide hkx
    clear hla HLA HO hkx ek
    have HG := hide (fun W => goesAhead_any W t c u y lt lc lu ly)
    obtain ⟨A, eA⟩ : ∃ A, ahead (t, c, u, y) (lt, lc, lu, ly) = A := ⟨_, rfl⟩
    rw [eA] at HG
    have hr := unhide HR4
    rw [eA] at hr
    have HR5 := hide hr
    clear hr HR4 eA
    have HLC : Hid (∀ W, IsL KA W (.slice (some ⟨b0, o0, none⟩) n c0) xs → W.cell? ⟨b0, o0 + k * 4, none⟩ = some (.int .i64 lt) ∧ W.cell? ⟨b0, o0 + k * 4 + 1, none⟩ = some (.int .i64 lc) ∧ W.cell? ⟨b0, o0 + k * 4 + 2, none⟩ = some (.int .i64 lu) ∧ W.cell? ⟨b0, o0 + k * 4 + 3, none⟩ = some (.int .i64 ly)) := fun W hW => by
      obtain ⟨b1, o1, e1, -, hl1⟩ := hW.opens ka (unhide HLN) (by omega)
      cases e1
      exact hl1.alarm (unhide HKX) (unhide HLB)
    go_upto_region 5 with (first | (go_at_call 26; refine (unhide HOR W0).mono ?_; rintro e w1 ⟨rfl, hb1⟩; have HX1 := hide (Below.next (unhide HX) hb1 (Nat.le_refl _)); have HP1 := hide (keep_below (unhide HP) hb1); have HS1 := hide ((unhide HS).below hb1); have HL1 := hide ((unhide HL).below hb1); clear hb1 HX HP HS HL; clear p0 p1 p2 p3 pl q0 q1 q2 ql r0 rl s0 sl; obtain ⟨⟨p0, p1, p2, p3⟩, -, pl⟩ := block4 (unhide HP1); obtain ⟨⟨q0, q1, q2⟩, -, ql⟩ := block3 (unhide HS1).bc; obtain ⟨r0, -, rl⟩ := block1 (unhide HS1).b1; obtain ⟨s0, -, sl⟩ := block1 (unhide HS1).b2) | (go_at_call 27; (with_reducible refine Calls.mono (unhide HH1 _ (unhide HS1).s1) ?_); rintro e w2 ⟨rfl, hb2⟩; have HX2 := hide (Below.next (unhide HX1) hb2 (Nat.le_refl _)); have HP2 := hide (keep_below (unhide HP1) hb2); have HS2 := hide ((unhide HS1).below hb2); have HL2 := hide ((unhide HL1).below hb2); clear hb2 HX1 HP1 HS1 HL1; clear p0 p1 p2 p3 pl q0 q1 q2 ql r0 rl s0 sl; obtain ⟨⟨p0, p1, p2, p3⟩, -, pl⟩ := block4 (unhide HP2); obtain ⟨⟨q0, q1, q2⟩, -, ql⟩ := block3 (unhide HS2).bc; obtain ⟨r0, -, rl⟩ := block1 (unhide HS2).b1; obtain ⟨s0, -, sl⟩ := block1 (unhide HS2).b2) | (go_at_call 27; (with_reducible refine Calls.mono (unhide HH2 _ (unhide HS2).s2) ?_); rintro e w3 ⟨rfl, hb3⟩; have HX3 := hide (Below.next (unhide HX2) hb3 (Nat.le_refl _)); have HP3 := hide (keep_below (unhide HP2) hb3); have HS3 := hide ((unhide HS2).below hb3); have HL3 := hide ((unhide HL2).below hb3); clear hb3 HX2 HP2 HS2 HL2; clear p0 p1 p2 p3 pl q0 q1 q2 ql r0 rl s0 sl; obtain ⟨⟨p0, p1, p2, p3⟩, -, pl⟩ := block4 (unhide HP3); obtain ⟨⟨q0, q1, q2⟩, -, ql⟩ := block3 (unhide HS3).bc; obtain ⟨r0, -, rl⟩ := block1 (unhide HS3).b1; obtain ⟨s0, -, sl⟩ := block1 (unhide HS3).b2))
    clear p0 p1 p2 p3 pl q0 q1 q2 ql r0 rl s0 sl
    have HSS : Hid (∀ W, Below w3.heap.size w3 W → (W.cell? ⟨w.heap.size, 0, none⟩ = some (.int .i64 t) ∧ W.cell? ⟨w.heap.size, 1, none⟩ = some (.int .i64 c) ∧ W.cell? ⟨w.heap.size, 2, none⟩ = some (.int .i64 u) ∧ W.cell? ⟨w.heap.size, 3, none⟩ = some (.int .i64 y)) ∧ W.cell? ⟨G, 2, none⟩ = some (.slice (some ⟨b0, o0, none⟩) n c0) ∧ (W.cell? ⟨b0, o0 + k * 4, none⟩ = some (.int .i64 lt) ∧ W.cell? ⟨b0, o0 + k * 4 + 1, none⟩ = some (.int .i64 lc) ∧ W.cell? ⟨b0, o0 + k * 4 + 2, none⟩ = some (.int .i64 lu) ∧ W.cell? ⟨b0, o0 + k * 4 + 3, none⟩ = some (.int .i64 ly)) ∧ Below w3.heap.size w3 W) := fun W hW => by
      obtain ⟨p, -, -⟩ := block4 (keep_below (unhide HP3) hW)
      obtain ⟨⟨-, -, q2⟩, -, -⟩ := block3 (keep_below (unhide HS3).bc hW)
      exact ⟨p, q2, unhide HLC W ((unhide HL3).below hW), hW⟩
    obtain ⟨⟨p0, p1, p2, p3⟩, q2, ⟨l0, l1, l2, l3⟩, -⟩ := unhide HSS _ (Below.refl _ _)
    go_wp2_with fail
    go_region_held3 (fun W => (W.cell? ⟨w.heap.size, 0, none⟩ = some (.int .i64 t) ∧ W.cell? ⟨w.heap.size, 1, none⟩ = some (.int .i64 c) ∧ W.cell? ⟨w.heap.size, 2, none⟩ = some (.int .i64 u) ∧ W.cell? ⟨w.heap.size, 3, none⟩ = some (.int .i64 y)) ∧ W.cell? ⟨G, 2, none⟩ = some (.slice (some ⟨b0, o0, none⟩) n c0) ∧ (W.cell? ⟨b0, o0 + k * 4, none⟩ = some (.int .i64 lt) ∧ W.cell? ⟨b0, o0 + k * 4 + 1, none⟩ = some (.int .i64 lc) ∧ W.cell? ⟨b0, o0 + k * 4 + 2, none⟩ = some (.int .i64 lu) ∧ W.cell? ⟨b0, o0 + k * 4 + 3, none⟩ = some (.int .i64 ly)) ∧ Below w3.heap.size w3 W)
      (first | with_reducible exact unhide HSS _ (Below.refl _ _).drew | with_reducible exact unhide HSS _ (unhide HX5))
      (first | (go_at_call 28; refine (unhide HG _).mono ?_; rintro e w5 ⟨rfl, hb5⟩; have HX5 : Hid (Below w3.heap.size w3 w5) := Below.next (by go_split_ands; assumption) hb5 (Nat.le_refl _); clear hb5))
    all_goals
      clear p0 p1 p2 p3 q2 l0 l1 l2 l3
      have hb4 := unhide HX5
      have HX4 := hide (Below.next (unhide HX3) hb4 (Nat.le_refl _)); have HP4 := hide (keep_below (unhide HP3) hb4); have HS4 := hide ((unhide HS3).below hb4); have HL4 := hide ((unhide HL3).below hb4)
      clear hb4 HX3 HP3 HS3 HL3 HX5
      obtain ⟨⟨p0, p1, p2, p3⟩, -, pl⟩ := block4 (unhide HP4); obtain ⟨⟨q0, q1, q2⟩, -, ql⟩ := block3 (unhide HS4).bc; obtain ⟨r0, -, rl⟩ := block1 (unhide HS4).b1; obtain ⟨s0, -, sl⟩ := block1 (unhide HS4).b2
      cases A with
      | true =>
        have hr := unhide HR5
        rw [if_pos ⟨hm, rfl⟩] at hr
        subst hr
        clear HR5 HA1 HA2
        go_wp2_with fail
        go_ret
        exact ⟨rfl, But2.of_below (unhide HX4), fun h => by cases h⟩
      | false =>
        have hr := unhide HR5
        rw [if_neg (by simp)] at hr
        subst hr
        clear HR5
        go_wp2_with (first | (go_at_call 29; (with_reducible refine Calls.mono (unhide HA1 _ (unhide HS4).s1) ?_); rintro e w5 ⟨rfl, e5⟩; have HS5 : Hid (Chk M C N E G now next (.slice _ n c0) (is ++ [t]) ss w5) := (by rw [e5]; exact (unhide HS4).add1 (Ne.symm (unhide HMN)) t); have HB5 : Hid (But2 M N w w5) := (by rw [e5]; exact (But2.of_below (unhide HX4)).put1 _); have HP5 := hide (show w5.heap[w.heap.size]? = some (.cells #[.int .i64 t, .int .i64 c, .int .i64 u, .int .i64 y] 42 (0, 0)) by rw [e5]; exact (heap_putObj _ (cells_no_map (unhide HP4) (unhide HS4).s1)).trans (unhide HP4)); clear e5 HS4 HX4 HP4 HL4; clear p0 p1 p2 p3 pl q0 q1 q2 ql r0 rl s0 sl; obtain ⟨⟨p0, p1, p2, p3⟩, -, pl⟩ := block4 (unhide HP5); obtain ⟨⟨q0, q1, q2⟩, -, ql⟩ := block3 (unhide HS5).bc; obtain ⟨r0, -, rl⟩ := block1 (unhide HS5).b1; obtain ⟨s0, -, sl⟩ := block1 (unhide HS5).b2) | (go_at_call 29; (with_reducible refine Calls.mono (unhide HA2 _ (unhide HS5).s2) ?_); rintro e w6 ⟨rfl, e6⟩; have HS6 : Hid (Chk M C N E G now next (.slice _ n c0) (is ++ [t]) (ss ++ [y]) w6) := (by rw [e6]; exact (unhide HS5).add2 (unhide HMN) y); have HB6 : Hid (But2 M N w w6) := (by rw [e6]; exact (unhide HB5).put2 _); clear e6 HS5 HB5 HP5; clear p0 p1 p2 p3 pl q0 q1 q2 ql r0 rl s0 sl))
        go_ret
        exact ⟨rfl, unhide HB6, unhide HS6⟩
  · have i0 : ¬ (0 : Int) < (m : Int) := by omega
    have hr := unhide HR4
    rw [if_neg (fun h => hm h.1)] at hr
    subst hr
    clear HR4
    go_upto_region 5 with (first | (go_at_call 26; refine (unhide HOR W0).mono ?_; rintro e w1 ⟨rfl, hb1⟩; have HX1 := hide (Below.next (unhide HX) hb1 (Nat.le_refl _)); have HP1 := hide (keep_below (unhide HP) hb1); have HS1 := hide ((unhide HS).below hb1); have HL1 := hide ((unhide HL).below hb1); clear hb1 HX HP HS HL; clear p0 p1 p2 p3 pl q0 q1 q2 ql r0 rl s0 sl; obtain ⟨⟨p0, p1, p2, p3⟩, -, pl⟩ := block4 (unhide HP1); obtain ⟨⟨q0, q1, q2⟩, -, ql⟩ := block3 (unhide HS1).bc; obtain ⟨r0, -, rl⟩ := block1 (unhide HS1).b1; obtain ⟨s0, -, sl⟩ := block1 (unhide HS1).b2) | (go_at_call 27; (with_reducible refine Calls.mono (unhide HH1 _ (unhide HS1).s1) ?_); rintro e w2 ⟨rfl, hb2⟩; have HX2 := hide (Below.next (unhide HX1) hb2 (Nat.le_refl _)); have HP2 := hide (keep_below (unhide HP1) hb2); have HS2 := hide ((unhide HS1).below hb2); have HL2 := hide ((unhide HL1).below hb2); clear hb2 HX1 HP1 HS1 HL1; clear p0 p1 p2 p3 pl q0 q1 q2 ql r0 rl s0 sl; obtain ⟨⟨p0, p1, p2, p3⟩, -, pl⟩ := block4 (unhide HP2); obtain ⟨⟨q0, q1, q2⟩, -, ql⟩ := block3 (unhide HS2).bc; obtain ⟨r0, -, rl⟩ := block1 (unhide HS2).b1; obtain ⟨s0, -, sl⟩ := block1 (unhide HS2).b2) | (go_at_call 27; (with_reducible refine Calls.mono (unhide HH2 _ (unhide HS2).s2) ?_); rintro e w3 ⟨rfl, hb3⟩; have HX3 := hide (Below.next (unhide HX2) hb3 (Nat.le_refl _)); have HP3 := hide (keep_below (unhide HP2) hb3); have HS3 := hide ((unhide HS2).below hb3); have HL3 := hide ((unhide HL2).below hb3); clear hb3 HX2 HP2 HS2 HL2; clear p0 p1 p2 p3 pl q0 q1 q2 ql r0 rl s0 sl; obtain ⟨⟨p0, p1, p2, p3⟩, -, pl⟩ := block4 (unhide HP3); obtain ⟨⟨q0, q1, q2⟩, -, ql⟩ := block3 (unhide HS3).bc; obtain ⟨r0, -, rl⟩ := block1 (unhide HS3).b1; obtain ⟨s0, -, sl⟩ := block1 (unhide HS3).b2))
    go_wp2_with fail
    go_quiet (fail)
    have hb4 : Below w3.heap.size w3 (w3.drewN nq) := below_drewN (Below.refl _ _) _
    clear p0 p1 p2 p3 pl q0 q1 q2 ql r0 rl s0 sl
    obtain ⟨w4, e4⟩ : ∃ W, w3.drewN nq = W := ⟨_, rfl⟩
    rw [e4] at hb4 ⊢
    clear e4
    have HX4 := hide (Below.next (unhide HX3) hb4 (Nat.le_refl _)); have HP4 := hide (keep_below (unhide HP3) hb4); have HS4 := hide ((unhide HS3).below hb4); have HL4 := hide ((unhide HL3).below hb4)
    clear hb4 HX3 HP3 HS3 HL3
    obtain ⟨⟨p0, p1, p2, p3⟩, -, pl⟩ := block4 (unhide HP4); obtain ⟨⟨q0, q1, q2⟩, -, ql⟩ := block3 (unhide HS4).bc; obtain ⟨r0, -, rl⟩ := block1 (unhide HS4).b1; obtain ⟨s0, -, sl⟩ := block1 (unhide HS4).b2
    go_wp2_with (first | (go_at_call 29; (with_reducible refine Calls.mono (unhide HA1 _ (unhide HS4).s1) ?_); rintro e w5 ⟨rfl, e5⟩; have HS5 : Hid (Chk M C N E G now next (.slice _ n c0) (is ++ [t]) ss w5) := (by rw [e5]; exact (unhide HS4).add1 (Ne.symm (unhide HMN)) t); have HB5 : Hid (But2 M N w w5) := (by rw [e5]; exact (But2.of_below (unhide HX4)).put1 _); have HP5 := hide (show w5.heap[w.heap.size]? = some (.cells #[.int .i64 t, .int .i64 c, .int .i64 u, .int .i64 y] 42 (0, 0)) by rw [e5]; exact (heap_putObj _ (cells_no_map (unhide HP4) (unhide HS4).s1)).trans (unhide HP4)); clear e5 HS4 HX4 HP4 HL4; clear p0 p1 p2 p3 pl q0 q1 q2 ql r0 rl s0 sl; obtain ⟨⟨p0, p1, p2, p3⟩, -, pl⟩ := block4 (unhide HP5); obtain ⟨⟨q0, q1, q2⟩, -, ql⟩ := block3 (unhide HS5).bc; obtain ⟨r0, -, rl⟩ := block1 (unhide HS5).b1; obtain ⟨s0, -, sl⟩ := block1 (unhide HS5).b2) | (go_at_call 29; (with_reducible refine Calls.mono (unhide HA2 _ (unhide HS5).s2) ?_); rintro e w6 ⟨rfl, e6⟩; have HS6 : Hid (Chk M C N E G now next (.slice _ n c0) (is ++ [t]) (ss ++ [y]) w6) := (by rw [e6]; exact (unhide HS5).add2 (unhide HMN) y); have HB6 : Hid (But2 M N w w6) := (by rw [e6]; exact (unhide HB5).put2 _); clear e6 HS5 HB5 HP5; clear p0 p1 p2 p3 pl q0 q1 q2 ql r0 rl s0 sl))
    go_ret
    exact ⟨rfl, unhide HB6, unhide HS6⟩

end Go.Proofs.Ytidpmcanfedbdaa
