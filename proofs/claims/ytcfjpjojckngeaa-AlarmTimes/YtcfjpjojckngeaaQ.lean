/-
  alarm.Due.
-/
import Derived.Test.YtcfjpjojckngeaaO
namespace Go.Proofs.Ytcfjpjojckngeaa
open Go.RowKit

/-- What is due is taken out, so many times at most. -/
def dueF (now : Int) : Nat → List Tm → List Tm → List Tm × List Tm
  | 0, l, d => (l, d)
  | f + 1, l, d => if 0 < l.length ∧ (tAt l 0).1 ≤ now then dueF now f (dropL l 0) (d ++ [tAt l 0]) else (l, d)
def dueL (ts : List Tm) (now : Int) : List Tm × List Tm := dueF now ts.length ts []
theorem dueF_stop {now : Int} {f : Nat} {l d : List Tm} (h : ¬ (0 < l.length ∧ (tAt l 0).1 ≤ now)) : dueF now f l d = (l, d) := by
  cases f with
  | zero => rfl
  | succ f => rw [dueF, if_neg h]
theorem dueF_go {now : Int} {f : Nat} {l d : List Tm} {t : Tm} (ht : tAt l 0 = t) (h : 0 < l.length) (hw : t.1 ≤ now) (hf : 0 < f) : dueF now f l d = dueF now (f - 1) (dropL l 0) (d ++ [t]) := by
  obtain ⟨f, rfl⟩ : ∃ f', f = f' + 1 := ⟨f - 1, by omega⟩
  rw [dueF, if_pos ⟨h, by rw [ht]; exact hw⟩, ht]
  rfl
theorem dueF_length (now : Int) : ∀ (f : Nat) (l d : List Tm), (dueF now f l d).1.length + (dueF now f l d).2.length = l.length + d.length
  | 0, _, _ => rfl
  | f + 1, l, d => by
    rw [dueF]
    split
    · rename_i h
      obtain ⟨n, hn⟩ : ∃ n, l.length = n + 1 := ⟨l.length - 1, by omega⟩
      rw [dueF_length now f, dropL_length hn (Nat.zero_le _), List.length_append, hn]
      simp
      omega
    · rfl
def sliceLen : Value → Nat
  | .slice _ n _ => n
  | _ => 0
theorem But.step {g : Nat} {w0 w w' : World} (h : But g w0 w) (hb : Below w0.heap.size w w') : But g w0 w' :=
  ⟨hb.os.trans h.os, hb.tape.trans h.tape, hb.output.trans h.output, Nat.le_trans h.size hb.size, fun k hk hg => (hb.block k hk).trans (h.block k hk hg)⟩
theorem But.out {g : Nat} {w0 w w' : World} (h : But g w0 w) (hb : But g w w') : But g w0 w' := h.trans hb
theorem Own.but {base g : Nat} {w w' : World} {v : Value} {ts : List Tm} (h : Own base w v ts) (hb : But g w w') (hg : g < base) : Own base w' v ts := h.keep fun k hk hlt => hb.block k hlt (by omega)
theorem Row.first {w : World} {g c : Nat} {ts : List Tm} (h : Row w g c ts) (hn : 0 < ts.length) {x y : Int} (e : tAt ts 0 = (x, y)) : w.cell? ⟨g, 0, none⟩ = some (.int .i64 x) ∧ w.cell? ⟨g, 1, none⟩ = some (.int .i64 y) := h.at hn e

set_option maxRecDepth 100000 in
set_option maxHeartbeats 2000000 in
theorem due_fault (w : World) (a : Option Addr) (n c : Nat) (now : Int) (ts : List Tm) (hl : ts.length = n) (h : IsTs w (.slice a n c) ts) (hm : n ≤ maxLen) (x y : Int) (hf : heapF ts = (x, y)) (hx : x ≠ 0) :
    Calls Try.prog 21 #[.slice a n c, .int .i64 now] w fun e w' => e = .returned (.tuple #[.slice none 0 0, .slice none 0 0, .agg #[.int .i64 x, .int .i64 y]]) ∧ Below w.heap.size w w' := by
  have hx1 : (x != 0) = true := by simpa using hx
  have HI0 := hide (IsTs.below h ((Below.refl _ _).alloc (Nat.le_refl _) (.cells #[.int .i64 0, .int .i64 0] 28)))
  have HCK : Hid (∀ W, IsTs W (.slice a n c) ts → Calls Try.prog 10 #[.slice a n c] W fun e w' => e = .returned (.agg #[.int .i64 x, .int .i64 y]) ∧ Below W.heap.size W w') := fun W hW => by
    have := check_any W _ ts hW (by rw [hl]; exact hm)
    rw [hf] at this
    exact this
  clear h hf hx hm hl
  go_enter Try.func21, Try.ntmps21
  go_upto_region 2 with (go_at_call 10; refine (unhide HCK _ (unhide HI0)).mono ?_; rintro e w1 ⟨rfl, hb1⟩; have HX1 := hide (hb1.mono (show w.heap.size + 1 ≤ _ by simp)); clear hb1)
  have TB := hide (new_block w1 (.cells #[.int .i64 x, .int .i64 y] 28))
  have XB := hide ((unhide HX1).alloc (Nat.le_trans (by simp) (unhide HX1).size) (.cells #[.int .i64 x, .int .i64 y] 28))
  obtain ⟨T, hT⟩ : ∃ T, w1.heap.size = T := ⟨_, rfl⟩
  obtain ⟨W2, hW2⟩ : ∃ W, w1.alloc (.cells #[.int .i64 x, .int .i64 y] 28) = W := ⟨_, rfl⟩
  rw [hT, hW2] at TB
  rw [hW2] at XB
  rw [hT, hW2]
  have HTS := hide (show w.heap.size < T by rw [← hT]; exact Nat.lt_of_lt_of_le (by simp) (unhide HX1).size)
  clear hT hW2
  obtain ⟨t0, t1, t2, t3, _⟩ := block2 (unhide TB)
  obtain ⟨r0, r1, f0, f1⟩ := res1 (unhide XB)
  have n0 : w.heap.size ≠ T := Nat.ne_of_lt (unhide HTS)
  have n1 : T ≠ w.heap.size := Ne.symm n0
  go_wp2_with fail
  go_region
  all_goals go_wp2_with fail
  all_goals exact bodyPost_ret (v := .tuple #[.slice none 0 0, .slice none 0 0, .agg #[.int .i64 x, .int .i64 y]]) (by simp [results, Try.results21, go_sem, r0, r1]) rfl ⟨rfl, (end1 (unhide XB)).drew⟩

set_option maxRecDepth 100000 in
set_option maxHeartbeats 2000000 in
theorem due_none (w : World) (a : Option Addr) (c : Nat) (now : Int) (h : IsTs w (.slice a 0 c) []) :
    Calls Try.prog 21 #[.slice a 0 c, .int .i64 now] w fun e w' => ∃ a1 c1 a2 c2, e = .returned (.tuple #[.slice a1 0 c1, .slice a2 0 c2, .agg #[.int .i64 0, .int .i64 0]]) ∧ Own w.heap.size w' (.slice a1 0 c1) [] ∧ Own w.heap.size w' (.slice a2 0 c2) [] ∧ Below w.heap.size w w' := by
  obtain ⟨ts, hts⟩ : ∃ ts : List Tm, [] = ts := ⟨_, rfl⟩
  have hl : ts.length = 0 := by rw [← hts]; rfl
  have hf : heapF ts = (0, 0) := by rw [← hts]; rfl
  rw [hts] at h ⊢
  have HI0 := hide (IsTs.below h ((Below.refl _ _).alloc (Nat.le_refl _) (.cells #[.int .i64 0, .int .i64 0] 28)))
  have HCK : Hid (∀ W, IsTs W (.slice a 0 c) ts → Calls Try.prog 10 #[.slice a 0 c] W fun e w' => e = .returned (.agg #[.int .i64 0, .int .i64 0]) ∧ Below W.heap.size W w') := fun W hW => by
    have := check_any W _ ts hW (by rw [hl]; unfold maxLen; omega)
    rw [hf] at this
    exact this
  have HFR : Hid (∀ W, IsTs W (.slice a 0 c) ts → Calls Try.prog 27 #[.slice a 0 c] W fun e w' => ∃ a' c', e = .returned (.slice a' 0 c') ∧ Own W.heap.size w' (.slice a' 0 c') ts ∧ Below W.heap.size W w') := fun W hW => by
    have := fresh_any W _ ts hW (by rw [hl]; omega)
    rw [hl] at this
    exact this
  have HV := hide h
  have HTS2 := hide hts
  clear h hf hl hts
  go_enter Try.func21, Try.ntmps21
  go_upto_region 2 with (go_at_call 10; refine (unhide HCK _ (unhide HI0)).mono ?_; rintro e w1 ⟨rfl, hb1⟩; have HX1 := hide (hb1.mono (show w.heap.size + 1 ≤ _ by simp)); clear hb1)
  have TB := hide (new_block w1 (.cells #[.int .i64 0, .int .i64 0] 28))
  have XB := hide ((unhide HX1).alloc (Nat.le_trans (by simp) (unhide HX1).size) (.cells #[.int .i64 0, .int .i64 0] 28))
  obtain ⟨T, hT⟩ : ∃ T, w1.heap.size = T := ⟨_, rfl⟩
  obtain ⟨W2, hW2⟩ : ∃ W, w1.alloc (.cells #[.int .i64 0, .int .i64 0] 28) = W := ⟨_, rfl⟩
  rw [hT, hW2] at TB
  rw [hW2] at XB
  rw [hT, hW2]
  have HTS := hide (show w.heap.size < T by rw [← hT]; exact Nat.lt_of_lt_of_le (by simp) (unhide HX1).size)
  clear hT hW2
  obtain ⟨t0, t1, t2, t3, _⟩ := block2 (unhide TB)
  obtain ⟨r0, r1, f0, f1⟩ := res1 (unhide XB)
  have HI2 := hide (IsTs.below (unhide HV) (below1 (unhide XB)))
  have HS2 := hide (show w.heap.size + 1 ≤ W2.heap.size from Nat.le_trans (by simp) (unhide XB).size)
  go_upto_region 5 with (go_at_call 27; refine (unhide HFR _ (unhide HI2)).mono ?_; rintro e w3 ⟨a3, c3, rfl, ho3, hb3⟩; have HO3 := hide ho3; have HX3 := hide (next1 (unhide XB) hb3); have HB3 := hide hb3; clear ho3 hb3)
  clear t0 t1 t2 t3 r0 r1 f0 f1
  have HRB := hide ((unhide HX3).block w.heap.size (Nat.lt_succ_self _) |>.trans (new_block w (.cells #[.int .i64 0, .int .i64 0] 28)))
  have HOE := hide (own_empty w3)
  have HOB := hide (unhide HO3)
  go_loopw [8, 9] (fun s8 s9 wr => s8 = .slice a3 0 c3 ∧ s9 = .slice (some ⟨w3.heap.size, 0, none⟩) 0 0 ∧ wr = w3.alloc (.cells #[] 24)) (fun _ _ _ => 0)
  case atStart => exact ⟨rfl, rfl, rfl⟩
  case round =>
    obtain ⟨rfl, rfl, rfl⟩ := hrel
    obtain ⟨r0, r1, f0, f1, _⟩ := block2 (keep_alloc (unhide HRB) (.cells #[] 24))
    go_wp2_with fail
    have hs3 : w.heap.size + 1 ≤ w3.heap.size := Nat.le_trans (by simp) (unhide HX3).size
    refine bodyPost_ret (v := .tuple #[.slice a3 0 c3, .slice (some ⟨w3.heap.size, 0, none⟩) 0 0, .agg #[.int .i64 0, .int .i64 0]]) (by simp [results, Try.results21, go_sem, r0, r1]) rfl ⟨a3, c3, _, 0, rfl, ?_, ?_, ?_⟩
    · exact ((((unhide HO3).base (unhide HS2)).below ((Below.refl _ _).alloc (Nat.le_refl _) _)).set2 (r := w.heap.size) (Nat.lt_succ_self _) _ _).base (Nat.le_succ _)
    · rw [← unhide HTS2]
      exact (((unhide HOE).base hs3).set2 (r := w.heap.size) (Nat.lt_succ_self _) _ _).base (Nat.le_succ _)
    · exact end1 ((unhide HX3).alloc hs3 _)

set_option maxRecDepth 100000 in
set_option maxHeartbeats 2000000 in
theorem due_some (w : World) (a : Option Addr) (n c : Nat) (now : Int) (ts : List Tm) (hl : ts.length = n) (hp : 0 < n) (h : IsTs w (.slice a n c) ts) (hf : heapF ts = (0, 0)) :
    Calls Try.prog 21 #[.slice a n c, .int .i64 now] w fun e w' => ∃ a1 c1 a2 c2, e = .returned (.tuple #[.slice a1 (dueL ts now).1.length c1, .slice a2 (dueL ts now).2.length c2, .agg #[.int .i64 0, .int .i64 0]]) ∧ Own w.heap.size w' (.slice a1 (dueL ts now).1.length c1) (dueL ts now).1 ∧ Own w.heap.size w' (.slice a2 (dueL ts now).2.length c2) (dueL ts now).2 ∧ Below w.heap.size w w' := by
  have hn : n ≤ 5000 := by rw [← hl]; exact heapF_len hf
  have HI0 := hide (IsTs.below h ((Below.refl _ _).alloc (Nat.le_refl _) (.cells #[.int .i64 0, .int .i64 0] 28)))
  have HCK : Hid (∀ W, IsTs W (.slice a n c) ts → Calls Try.prog 10 #[.slice a n c] W fun e w' => e = .returned (.agg #[.int .i64 0, .int .i64 0]) ∧ Below W.heap.size W w') := fun W hW => by
    have := check_any W _ ts hW (by rw [hl]; unfold maxLen; omega)
    rw [hf] at this
    exact this
  have HFR : Hid (∀ W, IsTs W (.slice a n c) ts → Calls Try.prog 27 #[.slice a n c] W fun e w' => ∃ a' c', e = .returned (.slice a' n c') ∧ Own W.heap.size w' (.slice a' n c') ts ∧ Below W.heap.size W w') := fun W hW => by
    have := fresh_any W _ ts hW (by rw [hl]; omega)
    rw [hl] at this
    exact this
  obtain ⟨R, hR⟩ : ∃ R, R = dueL ts now := ⟨_, rfl⟩
  rw [← hR]
  have HE : Hid (R = dueF now n ts []) := by rw [hR, ← hl]; rfl
  have HV := hide h
  have HL := hide hl
  clear h hf hl hR
  go_enter Try.func21, Try.ntmps21
  go_upto_region 2 with (go_at_call 10; refine (unhide HCK _ (unhide HI0)).mono ?_; rintro e w1 ⟨rfl, hb1⟩; have HX1 := hide (hb1.mono (show w.heap.size + 1 ≤ _ by simp)); clear hb1)
  have TB := hide (new_block w1 (.cells #[.int .i64 0, .int .i64 0] 28))
  have XB := hide ((unhide HX1).alloc (Nat.le_trans (by simp) (unhide HX1).size) (.cells #[.int .i64 0, .int .i64 0] 28))
  obtain ⟨T, hT⟩ : ∃ T, w1.heap.size = T := ⟨_, rfl⟩
  obtain ⟨W2, hW2⟩ : ∃ W, w1.alloc (.cells #[.int .i64 0, .int .i64 0] 28) = W := ⟨_, rfl⟩
  rw [hT, hW2] at TB
  rw [hW2] at XB
  rw [hT, hW2]
  have HTS := hide (show w.heap.size < T by rw [← hT]; exact Nat.lt_of_lt_of_le (by simp) (unhide HX1).size)
  clear hT hW2
  obtain ⟨t0, t1, t2, t3, _⟩ := block2 (unhide TB)
  obtain ⟨r0, r1, f0, f1⟩ := res1 (unhide XB)
  have HI2 := hide (IsTs.below (unhide HV) (below1 (unhide XB)))
  have HS2 := hide (show w.heap.size + 1 ≤ W2.heap.size from Nat.le_trans (by simp) (unhide XB).size)
  go_upto_region 5 with (go_at_call 27; refine (unhide HFR _ (unhide HI2)).mono ?_; rintro e w3 ⟨a3, c3, rfl, ho3, hb3⟩; have HO3 := hide ho3; have HX3 := hide (next1 (unhide XB) hb3); have HB3 := hide hb3; clear ho3 hb3)
  clear t0 t1 t2 t3 r0 r1 f0 f1
  have HRB := hide ((unhide HX3).block w.heap.size (Nat.lt_succ_self _) |>.trans (new_block w (.cells #[.int .i64 0, .int .i64 0] 28)))
  obtain ⟨g, cg, ev, hgw, hrow⟩ := (unhide HO3).row (by rw [unhide HL]; exact hp)
  rw [unhide HL] at ev
  cases ev
  have hg3 := hrow.lt
  have HW := hide hrow
  have hgs : w.heap.size ≠ g := by have := unhide HS2; omega
  have hgs2 : w.heap.size + 1 ≤ g := by have := unhide HS2; omega
  clear hrow HO3
  go_loopw [8, 9] (fun s8 s9 wr => ∃ (l d : List Tm) (f : Nat) (a9 : Option Addr) (c9 : Nat), s8 = .slice (some ⟨g, 0, none⟩) l.length c3 ∧ s9 = .slice a9 d.length c9 ∧ l.length ≤ f ∧ l.length + d.length ≤ n ∧ R = dueF now f l d ∧ Row wr g c3 l ∧ Own w3.heap.size wr (.slice a9 d.length c9) d ∧ But g w3 wr) (fun s8 _ _ => sliceLen s8)
  case atStart => exact ⟨ts, [], n, _, _, by rw [unhide HL], rfl, by rw [unhide HL]; exact Nat.le_refl _, by rw [unhide HL]; exact Nat.le_refl _, unhide HE, (unhide HW).below ((Below.refl w3.heap.size w3).alloc (Nat.le_refl _) _) hg3, own_empty w3, But.of_below ((Below.refl _ _).alloc (Nat.le_refl _) _)⟩
  case round =>
    clear HW HE
    obtain ⟨l, d, f, a9, c9, rfl, rfl, hlf, hld, hE, hrow, hown, hbut⟩ := hrel
    have HE := hide hE; have HW := hide hrow; have HO := hide hown; have HT := hide hbut
    clear hE hrow hown hbut
    obtain ⟨p, hpl⟩ : ∃ p, l.length = p := ⟨_, rfl⟩
    obtain ⟨q, hql⟩ : ∃ q, d.length = q := ⟨_, rfl⟩
    have HO' := unhide HO
    rw [hpl, hql] at hld
    rw [hpl] at hlf ⊢
    rw [hql] at HO' ⊢
    have HO := hide HO'
    have HPL := hide hpl; have HQL := hide hql
    clear HO' hpl hql
    have hs3 : w.heap.size + 1 ≤ w3.heap.size := Nat.le_trans (by simp) (unhide HX3).size
    cases p with
    | zero =>
      have HER := hide ((unhide HE).trans (dueF_stop (fun h => by rw [unhide HPL] at h; exact absurd h.1 (Nat.lt_irrefl _))))
      obtain ⟨r0, r1, f0, f1, _⟩ := block2 (keep_but (unhide HRB) (unhide HT) hgs)
      go_wp2_with fail
      refine bodyPost_ret (v := .tuple #[.slice (some ⟨g, 0, none⟩) 0 c3, .slice a9 q c9, .agg #[.int .i64 0, .int .i64 0]]) (by simp [results, Try.results21, go_sem, r0, r1]) rfl ⟨some ⟨g, 0, none⟩, c3, a9, c9, ?_, ?_, ?_, ?_⟩
      · rw [unhide HER, unhide HPL, unhide HQL]
      · rw [unhide HER]
        exact (((unhide HW).own hgs2).set2 (r := w.heap.size) (Nat.lt_succ_self _) _ _).base (Nat.le_succ _)
      · rw [unhide HER, unhide HQL]
        exact (((unhide HO).base hs3).set2 (r := w.heap.size) (Nat.lt_succ_self _) _ _).base (Nat.le_succ _)
      · exact end1 ((unhide HX3).trans ((unhide HT).below hgs2 hs3))
    | succ m =>
      obtain ⟨x, y, hxy⟩ : ∃ x y, tAt l 0 = (x, y) := ⟨_, _, rfl⟩
      obtain ⟨k0, k1⟩ := (unhide HW).first (by rw [unhide HPL]; omega) hxy
      have HXY := hide hxy
      clear hxy
      have g1 : (0 : Int) < (m : Int) + 1 := by omega
      by_cases hx : x ≤ now
      · have HGO := hide ((unhide HE).trans (dueF_go (unhide HXY) (by rw [unhide HPL]; omega) hx (by omega)))
        go_wp2_with (first
          | (at_builtin; refine wpList_append_ts rfl (.tmp 30) (.tmp 34) rfl w3.heap.size (.slice a9 q c9) d rfl (by have := Own.below (unhide HO) ((Below.refl _ _).alloc (Nat.le_refl _) (.cells #[.int .i64 x, .int .i64 y] 24)); exact this) _ [(x, y)] rfl (ts_new wr x y) (q + 1) (by rw [unhide HQL]; rfl) (by omega) (Nat.le_trans (unhide HT).size (by simp)) ?_; intro a5 c5 w5 ho5 hg5; have HB5 := hide ((((Below.refl wr.heap.size wr).alloc (Nat.le_refl _) _).mono (unhide HT).size).grown hg5 (Nat.le_trans (unhide HT).size (by simp)) (fun k hk => ((unhide HO).lt k hk).1)); have HO5 := hide ho5; have HR5 := hide ((unhide HW).below (unhide HB5) hg3); clear ho5 hg5 k0 k1)
          | (go_at_call 29; refine (without_any w5 g c3 m 0 l (unhide HPL) (Nat.zero_le _) (by omega) (unhide HR5)).mono ?_; rintro e w6 ⟨rfl, hr6, hb6⟩; have HR6 := hide hr6; have HT6 := hide (((unhide HT).step (unhide HB5)).trans hb6); have HO6 := hide ((unhide HO5).but hb6 hg3); clear hr6 hb6))
        go_roundw
        case rel =>
          have hdl := dropL_length (i := 0) (unhide HPL) (Nat.zero_le _)
          have hal : (d ++ [(x, y)]).length = q + 1 := by rw [List.length_append, unhide HQL]; rfl
          refine ⟨dropL l 0, d ++ [(x, y)], f - 1, a5, c5, by rw [hdl], by rw [hal], by rw [hdl]; omega, by rw [hdl, hal]; omega, unhide HGO, unhide HR6, ?_, unhide HT6⟩
          rw [hal]
          exact unhide HO6
        case measure => simp [sliceLen]
      · have HER := hide ((unhide HE).trans (dueF_stop (fun h => by rw [unhide HXY] at h; exact hx h.2)))
        obtain ⟨r0, r1, f0, f1, _⟩ := block2 (keep_but (unhide HRB) (unhide HT) hgs)
        go_wp2_with fail
        refine bodyPost_ret (v := .tuple #[.slice (some ⟨g, 0, none⟩) (m + 1) c3, .slice a9 q c9, .agg #[.int .i64 0, .int .i64 0]]) (by simp [results, Try.results21, go_sem, r0, r1]) rfl ⟨some ⟨g, 0, none⟩, c3, a9, c9, ?_, ?_, ?_, ?_⟩
        · rw [unhide HER, unhide HPL, unhide HQL]
        · rw [unhide HER]
          exact (((unhide HW).own hgs2).set2 (r := w.heap.size) (Nat.lt_succ_self _) _ _).base (Nat.le_succ _)
        · rw [unhide HER, unhide HQL]
          exact (((unhide HO).base hs3).set2 (r := w.heap.size) (Nat.lt_succ_self _) _ _).base (Nat.le_succ _)
        · exact end1 ((unhide HX3).trans ((unhide HT).below hgs2 hs3))

theorem due_ok (w : World) (v : Value) (now : Int) (ts : List Tm) (h : IsTs w v ts) (hf : heapF ts = (0, 0)) :
    Calls Try.prog 21 #[v, .int .i64 now] w fun e w' => ∃ a1 c1 a2 c2, e = .returned (.tuple #[.slice a1 (dueL ts now).1.length c1, .slice a2 (dueL ts now).2.length c2, .agg #[.int .i64 0, .int .i64 0]]) ∧ Own w.heap.size w' (.slice a1 (dueL ts now).1.length c1) (dueL ts now).1 ∧ Own w.heap.size w' (.slice a2 (dueL ts now).2.length c2) (dueL ts now).2 ∧ Below w.heap.size w w' := by
  obtain ⟨a, c, rfl⟩ := Rd.form h
  by_cases h0 : 0 < ts.length
  · exact due_some w a ts.length c now ts rfl h0 h hf
  · have e0 : ts = [] := List.eq_nil_of_length_eq_zero (by omega)
    subst e0
    exact due_none w a c now h

end Go.Proofs.Ytcfjpjojckngeaa
