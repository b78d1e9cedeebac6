/-
  Pipes and answers as they are read; blocks of variables; pipe.count, pipe.checkWhole, taskmilllaw.vastPipe.
-/
import Derived.Test.YtijogcjocandcaaA
namespace Go.Proofs.Ytijogcjocandcaa
open Go.RowKit

theorem new_block (w : World) (o : Obj) : (w.alloc o).heap[w.heap.size]? = some o := (MapKept.heap_alloc w o).1
theorem keep_below {w w' : World} {k : Nat} {x : Obj} (h : w.heap[k]? = some x) (hb : Below w.heap.size w w') : w'.heap[k]? = some x := (hb.block k (Array.getElem?_eq_some_iff.1 h).1).trans h
theorem keep_at {w w' : World} {k B : Nat} {x : Obj} (h : w.heap[k]? = some x) (hb : Below B w w') (hk : k < B) : w'.heap[k]? = some x := (hb.block k hk).trans h
theorem keep_alloc {w : World} {k : Nat} {x : Obj} (h : w.heap[k]? = some x) (o : Obj) : (w.alloc o).heap[k]? = some x := (Below.heap_alloc _ _ _ (Array.getElem?_eq_some_iff.1 h).1).trans h
theorem keep_set {w : World} {k g o : Nat} {x : Obj} {v : Value} (h : w.heap[k]? = some x) (hk : k ≠ g) : (w.setCell ⟨g, o, none⟩ v).heap[k]? = some x := (Below.heap_setCell _ _ _ _ (by simpa using hk)).trans h

theorem block1 {w : World} {R : Nat} {x : Value} {t : TypeId} (h : w.heap[R]? = some (.cells #[x] t (0, 0))) : w.cell? ⟨R, 0, none⟩ = some x ∧ w.frozen? ⟨R, 0, none⟩ = false ∧ R < w.heap.size := by
  refine ⟨?_, ?_, (Array.getElem?_eq_some_iff.1 h).1⟩
  · simp only [World.cell?, h]; rfl
  · simp [World.frozen?, h]
theorem block2 {w : World} {R : Nat} {x y : Value} {t : TypeId} (h : w.heap[R]? = some (.cells #[x, y] t (0, 0))) : w.cell? ⟨R, 0, none⟩ = some x ∧ w.cell? ⟨R, 1, none⟩ = some y ∧ w.frozen? ⟨R, 0, none⟩ = false ∧ w.frozen? ⟨R, 1, none⟩ = false ∧ R < w.heap.size := by
  refine ⟨?_, ?_, ?_, ?_, (Array.getElem?_eq_some_iff.1 h).1⟩
  · simp only [World.cell?, h]; rfl
  · simp only [World.cell?, h]; rfl
  · simp only [World.frozen?, h]; rfl
  · simp only [World.frozen?, h]; rfl
theorem block3 {w : World} {R : Nat} {x y z : Value} {t : TypeId} (h : w.heap[R]? = some (.cells #[x, y, z] t (0, 0))) : (w.cell? ⟨R, 0, none⟩ = some x ∧ w.cell? ⟨R, 1, none⟩ = some y ∧ w.cell? ⟨R, 2, none⟩ = some z) ∧ (w.frozen? ⟨R, 0, none⟩ = false ∧ w.frozen? ⟨R, 1, none⟩ = false ∧ w.frozen? ⟨R, 2, none⟩ = false) ∧ R < w.heap.size := by
  refine ⟨⟨?_, ?_, ?_⟩, ⟨?_, ?_, ?_⟩, (Array.getElem?_eq_some_iff.1 h).1⟩
  all_goals first | (simp only [World.cell?, h]; rfl) | (simp only [World.frozen?, h]; rfl)
theorem block5 {w : World} {R : Nat} {x0 x1 x2 x3 x4 : Value} {t : TypeId} (h : w.heap[R]? = some (.cells #[x0, x1, x2, x3, x4] t (0, 0))) : (w.cell? ⟨R, 0, none⟩ = some x0 ∧ w.cell? ⟨R, 1, none⟩ = some x1 ∧ w.cell? ⟨R, 2, none⟩ = some x2 ∧ w.cell? ⟨R, 3, none⟩ = some x3 ∧ w.cell? ⟨R, 4, none⟩ = some x4) ∧ (w.frozen? ⟨R, 0, none⟩ = false ∧ w.frozen? ⟨R, 1, none⟩ = false ∧ w.frozen? ⟨R, 2, none⟩ = false ∧ w.frozen? ⟨R, 3, none⟩ = false ∧ w.frozen? ⟨R, 4, none⟩ = false) ∧ R < w.heap.size := by
  refine ⟨⟨?_, ?_, ?_, ?_, ?_⟩, ⟨?_, ?_, ?_, ?_, ?_⟩, (Array.getElem?_eq_some_iff.1 h).1⟩
  all_goals first | (simp only [World.cell?, h]; rfl) | (simp only [World.frozen?, h]; rfl)
theorem block6 {w : World} {R : Nat} {x0 x1 x2 x3 x4 x5 : Value} {t : TypeId} (h : w.heap[R]? = some (.cells #[x0, x1, x2, x3, x4, x5] t (0, 0))) : (w.cell? ⟨R, 0, none⟩ = some x0 ∧ w.cell? ⟨R, 1, none⟩ = some x1 ∧ w.cell? ⟨R, 2, none⟩ = some x2 ∧ w.cell? ⟨R, 3, none⟩ = some x3 ∧ w.cell? ⟨R, 4, none⟩ = some x4 ∧ w.cell? ⟨R, 5, none⟩ = some x5) ∧ (w.frozen? ⟨R, 0, none⟩ = false ∧ w.frozen? ⟨R, 1, none⟩ = false ∧ w.frozen? ⟨R, 2, none⟩ = false ∧ w.frozen? ⟨R, 3, none⟩ = false ∧ w.frozen? ⟨R, 4, none⟩ = false ∧ w.frozen? ⟨R, 5, none⟩ = false) ∧ R < w.heap.size := by
  refine ⟨⟨?_, ?_, ?_, ?_, ?_, ?_⟩, ⟨?_, ?_, ?_, ?_, ?_, ?_⟩, (Array.getElem?_eq_some_iff.1 h).1⟩
  all_goals first | (simp only [World.cell?, h]; rfl) | (simp only [World.frozen?, h]; rfl)

/-- A pipe. -/
structure Pp where
  cap : Int
  items : List Int
  closed : Bool
  ss : List Po
  gs : List Po
/-- An answer. -/
structure An where
  done : Bool
  panic : Bool
  ok : Bool
  value : Int
  case : Int
  wakes : List Wk
def zeroP : Pp := ⟨0, [], false, [], []⟩
def zeroA : An := ⟨false, false, false, 0, 0, []⟩

/-- The value v reads as the pipe P. -/
def IsPipe (w : World) (v : Value) (P : Pp) : Prop := ∃ vi vs vg, v = .agg #[.int .i64 P.cap, vi, .bool P.closed, vs, vg] ∧ IsL KI w vi P.items ∧ IsL KP w vs P.ss ∧ IsL KP w vg P.gs
theorem IsPipe.below {w w' : World} {v : Value} {P : Pp} (h : IsPipe w v P) (hb : Below w.heap.size w w') : IsPipe w' v P := by
  obtain ⟨vi, vs, vg, rfl, h1, h2, h3⟩ := h
  exact ⟨vi, vs, vg, rfl, h1.below hb, h2.below hb, h3.below hb⟩
theorem IsPipe.form {w : World} {v : Value} {P : Pp} (h : IsPipe w v P) : ∃ a1 c1 a2 c2 a3 c3, v = .agg #[.int .i64 P.cap, .slice a1 P.items.length c1, .bool P.closed, .slice a2 P.ss.length c2, .slice a3 P.gs.length c3] ∧ IsL KI w (.slice a1 P.items.length c1) P.items ∧ IsL KP w (.slice a2 P.ss.length c2) P.ss ∧ IsL KP w (.slice a3 P.gs.length c3) P.gs := by
  obtain ⟨vi, vs, vg, rfl, h1, h2, h3⟩ := h
  obtain ⟨a1, c1, rfl⟩ := h1.form
  obtain ⟨a2, c2, rfl⟩ := h2.form
  obtain ⟨a3, c3, rfl⟩ := h3.form
  exact ⟨a1, c1, a2, c2, a3, c3, rfl, h1, h2, h3⟩
theorem zero_pipe (w : World) : IsPipe w (.agg #[.int .i64 0, .slice none 0 0, .bool false, .slice none 0 0, .slice none 0 0]) zeroP := ⟨_, _, _, rfl, isl_nil w, isl_nil w, isl_nil w⟩
/-- The value v reads as the answer A. -/
def IsAns (w : World) (v : Value) (A : An) : Prop := ∃ vw, v = .agg #[.bool A.done, .bool A.panic, .bool A.ok, .int .i64 A.value, .int .i64 A.case, vw] ∧ IsL KW w vw A.wakes
theorem IsAns.below {w w' : World} {v : Value} {A : An} (h : IsAns w v A) (hb : Below w.heap.size w w') : IsAns w' v A := by
  obtain ⟨vw, rfl, h1⟩ := h
  exact ⟨vw, rfl, h1.below hb⟩
theorem zero_ans (w : World) : IsAns w (.agg #[.bool false, .bool false, .bool false, .int .i64 0, .int .i64 0, .slice none 0 0]) zeroA := ⟨_, rfl, isl_nil w⟩

/-- How long lists may be. -/
def Short (P : Pp) : Prop := P.items.length * 8 ≤ 140737488355328 ∧ P.ss.length * 24 ≤ 140737488355328 ∧ P.gs.length * 24 ≤ 140737488355328
def countP (P : Pp) : Nat := P.items.length + P.ss.length + P.gs.length

theorem wrapi {x : Int} (h0 : -9223372036854775808 ≤ x) (h1 : x ≤ 9223372036854775807) : IntKind.i64.wrap x = x := by
  simp [IntKind.wrap, IntKind.bits, IntKind.signed]; omega

set_option maxRecDepth 100000 in
set_option maxHeartbeats 400000 in
theorem count_any (w : World) (v : Value) (P : Pp) (h : IsPipe w v P) (hs : Short P) :
    Calls Try.prog 47 #[v] w fun e w' => e = .returned (.int .i64 (countP P)) ∧ Below w.heap.size w w' := by
  obtain ⟨cap, items, closed, ss, gs⟩ := P
  obtain ⟨a1, c1, a2, c2, a3, c3, rfl, -, -, -⟩ := h.form
  obtain ⟨h1, h2, h3⟩ := hs
  have e : countP ⟨cap, items, closed, ss, gs⟩ = items.length + ss.length + gs.length := rfl
  rw [e]
  simp only at h1 h2 h3 ⊢
  generalize items.length = n1 at *
  generalize ss.length = n2 at *
  generalize gs.length = n3 at *
  have w1 : IntKind.i64.wrap ((n1 : Int) + n2) = (n1 : Int) + n2 := wrapi (by omega) (by omega)
  have w2 : IntKind.i64.wrap ((n1 : Int) + n2 + n3) = (n1 : Int) + n2 + n3 := wrapi (by omega) (by omega)
  go_enter Try.func47, Try.ntmps47
  go_wp2
  go_ret
  exact ⟨by simp, (Below.refl _ _).alloc (Nat.le_refl _) _⟩

/-- What is wrong with how a pipe's parts go together. -/
def wholeC (cap : Int) (m s g : Nat) (closed : Bool) : Int :=
  if 5000 < m + s + g then 2 else if cap < 0 ∨ 1000 < cap then 3 else if cap < m then 8
  else if 0 < s ∧ (closed = true ∨ (m : Int) < cap ∨ 0 < g) then 5 else if 0 < g ∧ (closed = true ∨ 0 < m) then 5 else 0

set_option maxRecDepth 100000 in
set_option maxHeartbeats 1000000 in
theorem checkWhole_any (w : World) (v : Value) (P : Pp) (h : IsPipe w v P) (hs : Short P) :
    Calls Try.prog 33 #[v] w fun e w' => e = .returned (.int .i64 (wholeC P.cap P.items.length P.ss.length P.gs.length P.closed)) ∧ Below w.heap.size w w' := by
  have HC : Hid (∀ W, Below w.heap.size w W → Calls Try.prog 47 #[v] W fun e w' => e = .returned (.int .i64 (countP P)) ∧ Below W.heap.size W w') := fun W hW => count_any W v P (h.below hW) hs
  obtain ⟨cap, items, closed, ss, gs⟩ := P
  obtain ⟨a1, c1, a2, c2, a3, c3, rfl, -, -, -⟩ := h.form
  obtain ⟨h1, h2, h3⟩ := hs
  have e : countP ⟨cap, items, closed, ss, gs⟩ = items.length + ss.length + gs.length := rfl
  rw [e] at HC
  simp only at h1 h2 h3 HC h ⊢
  generalize items.length = m at *
  generalize ss.length = s at *
  generalize gs.length = g at *
  clear h e items ss gs
  generalize hn : m + s + g = n at *
  have HN := hide hn
  obtain ⟨r, hr⟩ : ∃ r, wholeC cap m s g closed = r := ⟨_, rfl⟩
  rw [hr]
  have HR := hide hr
  clear hr hn
  have HAR : Hid (∀ W, Below (w.alloc (.cells #[.int .i64 cap, .slice a1 m c1, .bool closed, .slice a2 s c2, .slice a3 g c3] 25)).heap.size (w.alloc (.cells #[.int .i64 cap, .slice a1 m c1, .bool closed, .slice a2 s c2, .slice a3 g c3] 25)) W → W.heap[w.heap.size]? = some (.cells #[.int .i64 cap, .slice a1 m c1, .bool closed, .slice a2 s c2, .slice a3 g c3] 25)) := fun W hW => keep_below (new_block w _) hW
  by_cases q1 : 5000 < n
  · have p1 : (5000 : Int) < (n : Int) := by omega
    have hr2 := unhide HR
    rw [wholeC, unhide HN, if_pos q1] at hr2
    subst hr2
    clear HR
    go_enter Try.func33, Try.ntmps33
    go_wp2_with (go_at_call 47; refine (unhide HC _ ((Below.refl _ _).alloc (Nat.le_refl _) _)).mono ?_; rintro e w1 ⟨rfl, hb1⟩; obtain ⟨⟨k0, k1, k2, k3, k4⟩, -, kl⟩ := block5 (unhide HAR _ hb1); have HB := hide (((Below.refl w.heap.size w).alloc (Nat.le_refl _) _).trans (hb1.mono (by simp))); clear hb1)
    go_ret
    exact ⟨rfl, unhide HB⟩
  · have p1 : ¬ (5000 : Int) < (n : Int) := by omega
    by_cases q2 : cap < 0
    · skip
      have hr2 := unhide HR
      rw [wholeC, unhide HN, if_neg q1, if_pos (Or.inl q2)] at hr2
      subst hr2
      clear HR
      go_enter Try.func33, Try.ntmps33
      go_wp2_with (go_at_call 47; refine (unhide HC _ ((Below.refl _ _).alloc (Nat.le_refl _) _)).mono ?_; rintro e w1 ⟨rfl, hb1⟩; obtain ⟨⟨k0, k1, k2, k3, k4⟩, -, kl⟩ := block5 (unhide HAR _ hb1); have HB := hide (((Below.refl w.heap.size w).alloc (Nat.le_refl _) _).trans (hb1.mono (by simp))); clear hb1)
      go_ret
      exact ⟨rfl, unhide HB⟩
    · skip
      by_cases q3 : 1000 < cap
      · skip
        have hr2 := unhide HR
        rw [wholeC, unhide HN, if_neg q1, if_pos (Or.inr q3)] at hr2
        subst hr2
        clear HR
        go_enter Try.func33, Try.ntmps33
        go_wp2_with (go_at_call 47; refine (unhide HC _ ((Below.refl _ _).alloc (Nat.le_refl _) _)).mono ?_; rintro e w1 ⟨rfl, hb1⟩; obtain ⟨⟨k0, k1, k2, k3, k4⟩, -, kl⟩ := block5 (unhide HAR _ hb1); have HB := hide (((Below.refl w.heap.size w).alloc (Nat.le_refl _) _).trans (hb1.mono (by simp))); clear hb1)
        go_ret
        exact ⟨rfl, unhide HB⟩
      · skip
        by_cases q4 : cap < (m : Int)
        · skip
          have hr2 := unhide HR
          rw [wholeC, unhide HN, if_neg q1, if_neg (fun h => h.elim q2 q3), if_pos q4] at hr2
          subst hr2
          clear HR
          go_enter Try.func33, Try.ntmps33
          go_wp2_with (go_at_call 47; refine (unhide HC _ ((Below.refl _ _).alloc (Nat.le_refl _) _)).mono ?_; rintro e w1 ⟨rfl, hb1⟩; obtain ⟨⟨k0, k1, k2, k3, k4⟩, -, kl⟩ := block5 (unhide HAR _ hb1); have HB := hide (((Below.refl w.heap.size w).alloc (Nat.le_refl _) _).trans (hb1.mono (by simp))); clear hb1)
          go_ret
          exact ⟨rfl, unhide HB⟩
        · skip
          by_cases h5 : 0 < s
          · have g5 : (0 : Int) < (s : Int) := by omega
            cases closed with
            | true =>
              have hr2 := unhide HR
              rw [wholeC, unhide HN, if_neg q1, if_neg (fun h => h.elim q2 q3), if_neg q4, if_pos ⟨h5, Or.inl rfl⟩] at hr2
              subst hr2
              clear HR
              go_enter Try.func33, Try.ntmps33
              go_wp2_with (go_at_call 47; refine (unhide HC _ ((Below.refl _ _).alloc (Nat.le_refl _) _)).mono ?_; rintro e w1 ⟨rfl, hb1⟩; obtain ⟨⟨k0, k1, k2, k3, k4⟩, -, kl⟩ := block5 (unhide HAR _ hb1); have HB := hide (((Below.refl w.heap.size w).alloc (Nat.le_refl _) _).trans (hb1.mono (by simp))); clear hb1)
              go_ret
              exact ⟨rfl, unhide HB⟩
            | false =>
              by_cases h7 : (m : Int) < cap
              · skip
                have hr2 := unhide HR
                rw [wholeC, unhide HN, if_neg q1, if_neg (fun h => h.elim q2 q3), if_neg q4, if_pos ⟨h5, Or.inr (Or.inl h7)⟩] at hr2
                subst hr2
                clear HR
                go_enter Try.func33, Try.ntmps33
                go_wp2_with (go_at_call 47; refine (unhide HC _ ((Below.refl _ _).alloc (Nat.le_refl _) _)).mono ?_; rintro e w1 ⟨rfl, hb1⟩; obtain ⟨⟨k0, k1, k2, k3, k4⟩, -, kl⟩ := block5 (unhide HAR _ hb1); have HB := hide (((Below.refl w.heap.size w).alloc (Nat.le_refl _) _).trans (hb1.mono (by simp))); clear hb1)
                go_ret
                exact ⟨rfl, unhide HB⟩
              · skip
                by_cases h8 : 0 < g
                · have g8 : (0 : Int) < (g : Int) := by omega
                  have hr2 := unhide HR
                  rw [wholeC, unhide HN, if_neg q1, if_neg (fun h => h.elim q2 q3), if_neg q4, if_pos ⟨h5, Or.inr (Or.inr h8)⟩] at hr2
                  subst hr2
                  clear HR
                  go_enter Try.func33, Try.ntmps33
                  go_wp2_with (go_at_call 47; refine (unhide HC _ ((Below.refl _ _).alloc (Nat.le_refl _) _)).mono ?_; rintro e w1 ⟨rfl, hb1⟩; obtain ⟨⟨k0, k1, k2, k3, k4⟩, -, kl⟩ := block5 (unhide HAR _ hb1); have HB := hide (((Below.refl w.heap.size w).alloc (Nat.le_refl _) _).trans (hb1.mono (by simp))); clear hb1)
                  go_ret
                  exact ⟨rfl, unhide HB⟩
                · have g8 : ¬ (0 : Int) < (g : Int) := by omega
                  have hr2 := unhide HR
                  rw [wholeC, unhide HN, if_neg q1, if_neg (fun h => h.elim q2 q3), if_neg q4, if_neg (fun h => h.2.elim (fun h => by cases h) (fun h => h.elim h7 h8)), if_neg (fun h => h8 h.1)] at hr2
                  subst hr2
                  clear HR
                  go_enter Try.func33, Try.ntmps33
                  go_wp2_with (go_at_call 47; refine (unhide HC _ ((Below.refl _ _).alloc (Nat.le_refl _) _)).mono ?_; rintro e w1 ⟨rfl, hb1⟩; obtain ⟨⟨k0, k1, k2, k3, k4⟩, -, kl⟩ := block5 (unhide HAR _ hb1); have HB := hide (((Below.refl w.heap.size w).alloc (Nat.le_refl _) _).trans (hb1.mono (by simp))); clear hb1)
                  go_ret
                  exact ⟨rfl, unhide HB⟩
          · have g5 : ¬ (0 : Int) < (s : Int) := by omega
            by_cases h8 : 0 < g
            · have g8 : (0 : Int) < (g : Int) := by omega
              cases closed with
              | true =>
                have hr2 := unhide HR
                rw [wholeC, unhide HN, if_neg q1, if_neg (fun h => h.elim q2 q3), if_neg q4, if_neg (fun h => h5 h.1), if_pos ⟨h8, Or.inl rfl⟩] at hr2
                subst hr2
                clear HR
                go_enter Try.func33, Try.ntmps33
                go_wp2_with (go_at_call 47; refine (unhide HC _ ((Below.refl _ _).alloc (Nat.le_refl _) _)).mono ?_; rintro e w1 ⟨rfl, hb1⟩; obtain ⟨⟨k0, k1, k2, k3, k4⟩, -, kl⟩ := block5 (unhide HAR _ hb1); have HB := hide (((Below.refl w.heap.size w).alloc (Nat.le_refl _) _).trans (hb1.mono (by simp))); clear hb1)
                go_ret
                exact ⟨rfl, unhide HB⟩
              | false =>
                by_cases h9 : 0 < m
                · have g9 : (0 : Int) < (m : Int) := by omega
                  have hr2 := unhide HR
                  rw [wholeC, unhide HN, if_neg q1, if_neg (fun h => h.elim q2 q3), if_neg q4, if_neg (fun h => h5 h.1), if_pos ⟨h8, Or.inr h9⟩] at hr2
                  subst hr2
                  clear HR
                  go_enter Try.func33, Try.ntmps33
                  go_wp2_with (go_at_call 47; refine (unhide HC _ ((Below.refl _ _).alloc (Nat.le_refl _) _)).mono ?_; rintro e w1 ⟨rfl, hb1⟩; obtain ⟨⟨k0, k1, k2, k3, k4⟩, -, kl⟩ := block5 (unhide HAR _ hb1); have HB := hide (((Below.refl w.heap.size w).alloc (Nat.le_refl _) _).trans (hb1.mono (by simp))); clear hb1)
                  go_ret
                  exact ⟨rfl, unhide HB⟩
                · have g9 : ¬ (0 : Int) < (m : Int) := by omega
                  have hr2 := unhide HR
                  rw [wholeC, unhide HN, if_neg q1, if_neg (fun h => h.elim q2 q3), if_neg q4, if_neg (fun h => h5 h.1), if_neg (fun h => h.2.elim (fun h => by cases h) h9)] at hr2
                  subst hr2
                  clear HR
                  go_enter Try.func33, Try.ntmps33
                  go_wp2_with (go_at_call 47; refine (unhide HC _ ((Below.refl _ _).alloc (Nat.le_refl _) _)).mono ?_; rintro e w1 ⟨rfl, hb1⟩; obtain ⟨⟨k0, k1, k2, k3, k4⟩, -, kl⟩ := block5 (unhide HAR _ hb1); have HB := hide (((Below.refl w.heap.size w).alloc (Nat.le_refl _) _).trans (hb1.mono (by simp))); clear hb1)
                  go_ret
                  exact ⟨rfl, unhide HB⟩
            · have g8 : ¬ (0 : Int) < (g : Int) := by omega
              have hr2 := unhide HR
              rw [wholeC, unhide HN, if_neg q1, if_neg (fun h => h.elim q2 q3), if_neg q4, if_neg (fun h => h5 h.1), if_neg (fun h => h8 h.1)] at hr2
              subst hr2
              clear HR
              go_enter Try.func33, Try.ntmps33
              go_wp2_with (go_at_call 47; refine (unhide HC _ ((Below.refl _ _).alloc (Nat.le_refl _) _)).mono ?_; rintro e w1 ⟨rfl, hb1⟩; obtain ⟨⟨k0, k1, k2, k3, k4⟩, -, kl⟩ := block5 (unhide HAR _ hb1); have HB := hide (((Below.refl w.heap.size w).alloc (Nat.le_refl _) _).trans (hb1.mono (by simp))); clear hb1)
              go_ret
              exact ⟨rfl, unhide HB⟩
end Go.Proofs.Ytijogcjocandcaa
