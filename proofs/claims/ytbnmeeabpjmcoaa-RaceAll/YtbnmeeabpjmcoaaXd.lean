/-
  race.seen.add: an event is gone through.
-/
import Derived.Test.YtbnmeeabpjmcoaaXc
namespace Go.Proofs.Ytbnmeeabpjmcoaa
open Go.RowKit

/-- All blocks of cells but those of accesses are as they were. -/
def KtA (w w' : World) : Prop := ∀ (b : Nat) (A : Array Value) (t : TypeId) (f : Nat × Nat), w.heap[b]? = some (Obj.cells A t f) → t ≠ 88 → w'.heap[b]? = some (Obj.cells A t f)
theorem pl_map (l : List Acc) : (l.map fun a => ((a.pl : Nat) : Int)).length = l.length := by simp
/-- The places of those of the first j accesses that race. -/
def racJ (hs : List Int) (l : List Ev) (al : List Acc) (b : Acc) (j : Nat) : List Int := ((al.take j).filter (fun a => raceA hs l a b)).map fun a => ((a.pl : Nat) : Int)
theorem racJ_zero (hs : List Int) (l : List Ev) (al : List Acc) (b : Acc) : racJ hs l al b 0 = [] := rfl
theorem take_succ_acc (al : List Acc) {j : Nat} (h : j < al.length) : al.take (j + 1) = al.take j ++ [al.getD j acc0] := by
  rw [List.take_add_one, List.getElem?_eq_getElem h]
  simp [List.getElem?_eq_getElem h]
theorem racJ_yes (hs : List Int) (l : List Ev) (al : List Acc) (b : Acc) {j : Nat} (h : j < al.length) (hr : raceA hs l (al.getD j acc0) b = true) : racJ hs l al b (j + 1) = racJ hs l al b j ++ [((al.getD j acc0).pl : Int)] := by
  unfold racJ
  rw [take_succ_acc al h, List.filter_append, List.map_append]
  simp [-List.getD_eq_getElem?_getD, hr]
theorem racJ_no (hs : List Int) (l : List Ev) (al : List Acc) (b : Acc) {j : Nat} (h : j < al.length) (hr : raceA hs l (al.getD j acc0) b = false) : racJ hs l al b (j + 1) = racJ hs l al b j := by
  unfold racJ
  rw [take_succ_acc al h, List.filter_append, List.map_append]
  simp [-List.getD_eq_getElem?_getD, hr]
theorem racJ_all (hs : List Int) (l : List Ev) {k : Nat} (h : isAcc (l.getD k ev0) = true) : racJ hs l (accL l k (l.getD k ev0).obj) (accOf l k) (accL l k (l.getD k ev0).obj).length = (racing hs l k).map fun a => ((a.pl : Nat) : Int) := by
  unfold racJ racing
  rw [if_pos h, List.take_length]
theorem racJ_len (hs : List Int) (l : List Ev) (al : List Acc) (b : Acc) (j : Nat) : (racJ hs l al b j).length ≤ j := by
  unfold racJ
  rw [List.length_map]
  have := List.length_filter_le (fun a => raceA hs l a b) (al.take j)
  have := List.length_take_le j al
  omega

theorem Own.neM {α : Type} {K : Kind α} {base : Nat} {w : World} {v : Value} {xs : List α} (h : Own K base w v xs) {R : Nat} {es : Array MapEntry} {q : Nat} (hR : w.heap[R]? = some (.map es q)) : ∀ k, v.ownBlock = some k → k ≠ R := by
  obtain ⟨_, ⟨rfl, _⟩ | ⟨g, cap, cur, rfl, hg, hh, _⟩⟩ := h
  · intro k hk; cases hk
  · intro k hk
    cases hk
    rintro rfl
    rw [hh] at hR
    cases hR
theorem below_putObj {lo B : Nat} {w w' : World} {o : Obj} (h : Below lo w w') (hB : lo ≤ B) : Below lo w (putObj w' B o) :=
  ⟨h.os, h.tape, h.output, by rw [size_putObj]; exact h.size, fun k hk => by rw [heap_putObj k (by omega)]; exact h.block k hk⟩
theorem SeenAt.map_grown {lo : Nat} {w w6 : World} {S B : Nat} {cv : Value} {ks : List Int} {sv : Int → Value} {l : List Ev} {n : Nat} {ob : Int} {v : Value} (h : SeenAt lo w S B cv ks sv l n) (hv : sv ob = v) (hg : w.grownBy w6 v.ownBlock) : w6.heap[B]? = some (.map (msEnts ks sv) ks.length) :=
  keep_grown h.map hg fun j hj => by
    have := h.rows ob
    rw [hv] at this
    exact this.neM h.map j hj
theorem SeenAt.step {lo : Nat} {w w6 : World} {S B : Nat} {cv : Value} {ks ks2 : List Int} {sv : Int → Value} {l : List Ev} {n : Nat} {ob : Int} {v v9 : Value} {al : List Acc} {ac : Acc} (h : SeenAt lo w S B cv ks sv l n) (hv : sv ob = v) (hg : w.grownBy w6 v.ownBlock) (ho : Own KA lo w6 v9 (al ++ [ac])) (hnew : ∀ k, v9.ownBlock = some k → v.ownBlock = some k ∨ w.heap.size ≤ k) (hyes : accL l (n + 1) ob = al ++ [ac]) (hno : ∀ c, c ≠ ob → accL l (n + 1) c = accL l n c) (hnd : ks2.Nodup) (hmem : ∀ c, c ∈ ks2 ↔ c ∈ ks ∨ c = ob) :
    SeenAt lo (putObj w6 B (.map (msEnts ks2 (updI sv ob v9)) ks2.length)) S B cv ks2 (updI sv ob v9) l (n + 1) := by
  have hm6 := h.map_grown hv hg
  have hB6 := size_of hm6
  have hrow := h.rows ob
  rw [hv] at hrow
  have hb6 : w6.heap[S]? = some (.cells #[cv, .map (some B)] 86 (0, 0)) := keep_grown h.blk hg fun j hj => Own.ne hrow h.blk (by decide) j hj
  have hSB : S ≠ B := fun e => by rw [e, hm6] at hb6; cases hb6
  refine ⟨?_, heap_putObj_same hB6, hnd, fun c hc => ?_, fun c => ?_, fun c c' hne => ?_, h.lb⟩
  · rw [heap_putObj S hSB]; exact hb6
  · have h1 : c ∉ ks ∧ c ≠ ob := ⟨fun q => hc ((hmem c).2 (Or.inl q)), fun q => hc ((hmem c).2 (Or.inr q))⟩
    rw [updI_ne _ _ _ _ h1.2]
    exact h.zero c h1.1
  · by_cases e : c = ob
    · subst e
      rw [updI_same, hyes]
      exact ho.keep fun k hk => heap_putObj k (ho.neM hm6 k hk)
    · rw [updI_ne _ _ _ _ e, hno c e]
      have hap := h.apart ob c (Ne.symm e)
      rw [hv] at hap
      have h1 : Own KA lo w6 (sv c) (accL l n c) := (h.rows c).keep fun k hk => by
        obtain ⟨_, _, _, _, hb⟩ := hg
        refine hb k ((h.rows c).lt k hk).2 ?_
        cases e : v.ownBlock with
        | none => simp
        | some j =>
          have := hap j e
          rw [hk] at this
          simp at this ⊢
          omega
      exact h1.keep fun k hk => heap_putObj k (h1.neM hm6 k hk)
  · have hnv : ∀ c, c ≠ ob → ∀ k, v9.ownBlock = some k → (sv c).ownBlock ≠ some k := fun c hc k hk hk2 => by
      rcases hnew k hk with h1 | h1
      · have := h.apart ob c (Ne.symm hc) k (by rw [hv]; exact h1)
        exact this hk2
      · have := ((h.rows c).lt k hk2).2
        omega
    by_cases e : c = ob
    · subst e
      rw [updI_same, updI_ne _ _ _ _ (Ne.symm hne)]
      exact fun k hk => hnv c' (Ne.symm hne) k hk
    · rw [updI_ne _ _ _ _ e]
      by_cases e' : c' = ob
      · subst e'
        rw [updI_same]
        exact fun k hk hk2 => hnv c e k hk2 hk
      · rw [updI_ne _ _ _ _ e']
        exact h.apart c c' hne

theorem bs_acc (w : World) (a b : Int) (c : Bool) : (Instr.buildSlice 89 1 #[(0, .agg #[.int .i64 a, .int .i64 b, .bool c])]).run Try.prog w = .ok (.slice (some ⟨w.heap.size, 0, none⟩) 1 1) (w.alloc (.cells #[.int .i64 a, .int .i64 b, .bool c] 88 (0, 0))) := by
  go_simp
  try rfl
set_option maxRecDepth 100000 in
set_option maxHeartbeats 4000000 in
theorem add_no (w0 w : World) (S B G nn : Nat) (ks : List Int) (sv : Int → Value) (l : List Ev) (hs : List Int) (k : Nat) (hS : SeenAt w0.heap.size w S B (.slice (some ⟨G, 0, none⟩) nn nn) ks sv l k) (hb0 : Below w0.heap.size w0 w) (tk op ob vl : Int) (ex : l.getD k ev0 = ⟨tk, op, ob, vl⟩) (ha : isAcc (l.getD k ev0) = false) :
    Calls Try.prog 38 #[.pointer (some ⟨S, 0, none⟩), .int .i64 (k : Int), .agg #[.int .i64 tk, .int .i64 op, .int .i64 ob, .int .i64 vl]] w fun e w' => ∃ a c ks' sv', e = .returned (.slice a (racing hs l k).length c) ∧ Own KI w.heap.size w' (.slice a (racing hs l k).length c) ((racing hs l k).map fun a => ((a.pl : Nat) : Int)) ∧ SeenAt w0.heap.size w' S B (.slice (some ⟨G, 0, none⟩) nn nn) ks' sv' l (k + 1) ∧ Below w0.heap.size w0 w' ∧ KtA w w' := by
  have hr : racing hs l k = [] := by unfold racing; rw [ha]; rfl
  have hop : (op == 12 || op == 13) = false := by rw [ex] at ha; exact ha
  have HS := hide (hS.skip ha)
  have HX := hide ((Below.refl w.heap.size w).alloc (Nat.le_refl _) (.cells #[.int .i64 tk, .int .i64 op, .int .i64 ob, .int .i64 vl] 41 (0, 0)))
  have HQ := hide (new_block w (.cells #[.int .i64 tk, .int .i64 op, .int .i64 ob, .int .i64 vl] 41 (0, 0)))
  have HB0 := hide hb0
  rw [hr]
  have HIA : Hid (∀ W, Calls Try.prog 47 #[.int .i64 op] W fun e w' => e = .returned (.bool false) ∧ w' = W) := fun W => by have := isAccess_any W op; rwa [hop] at this
  obtain ⟨W0, e0⟩ : ∃ X, w.alloc (.cells #[.int .i64 tk, .int .i64 op, .int .i64 ob, .int .i64 vl] 41 (0, 0)) = X := ⟨_, rfl⟩
  rw [e0] at HX HQ
  have HE := hide e0
  clear e0 hS ha hr hb0 hop
  obtain ⟨⟨q0, q1, q2, q3⟩, ⟨f0, f1, f2, f3⟩, ql⟩ := block4 (unhide HQ)
  go_enter Try.func38, Try.ntmps38
  go_upto_region 1 with fail
  rw [unhide HE]
  clear HE
  go_wp2_with (go_at_call 47; (with_reducible refine Calls.mono (unhide HIA _) ?_); rintro e w1 ⟨rfl, rfl⟩)
  go_ret
  exact ⟨none, 0, ks, sv, rfl, own_nil _ _, (unhide HS).below (unhide HX), (unhide HB0).trans ((unhide HX).mono (unhide HB0).size), fun b A t f h _ => keep_below h (unhide HX)⟩

set_option maxRecDepth 100000 in
set_option maxHeartbeats 4000000 in
theorem add_yes (w0 w : World) (S B lo' G nn m : Nat) (ks : List Int) (sv : Int → Value) (l : List Ev) (hs : List Int) (k : Nat) (hS : SeenAt w0.heap.size w S B (.slice (some ⟨G, 0, none⟩) nn nn) ks sv l k) (hR : Rows2 lo' w0 G nn (rowL hs l m) m nn) (hb0 : Below w0.heap.size w0 w) (hg : GoodT hs l) (hln : l.length = nn) (hm : lastL l = (m : Int)) (hk : k < nn) (tk op ob vl : Int) (ex : l.getD k ev0 = ⟨tk, op, ob, vl⟩) (ha : isAcc (l.getD k ev0) = true) :
    Calls Try.prog 38 #[.pointer (some ⟨S, 0, none⟩), .int .i64 (k : Int), .agg #[.int .i64 tk, .int .i64 op, .int .i64 ob, .int .i64 vl]] w fun e w' => ∃ a c ks' sv', e = .returned (.slice a (racing hs l k).length c) ∧ Own KI w.heap.size w' (.slice a (racing hs l k).length c) ((racing hs l k).map fun a => ((a.pl : Nat) : Int)) ∧ SeenAt w0.heap.size w' S B (.slice (some ⟨G, 0, none⟩) nn nn) ks' sv' l (k + 1) ∧ Below w0.heap.size w0 w' ∧ KtA w w' := by
  have hop : (op == 12 || op == 13) = true := by rw [ex] at ha; exact ha
  have hn : nn ≤ 2000 := by rw [← hln]; exact hg.n
  have hmm : m ≤ 64 := by
    have h0 := (hg.last l.length (Nat.le_refl _)).2
    rw [List.take_length] at h0
    omega
  have HIA : Hid (∀ W, Calls Try.prog 47 #[.int .i64 op] W fun e w' => e = .returned (.bool true) ∧ w' = W) := fun W => by have := isAccess_any W op; rwa [hop] at this
  have heo : (l.getD k ev0).obj = ob := by rw [ex]
  have hao : accOf l k = ⟨k, tk, op == 13⟩ := by unfold accOf; rw [ex]
  have hall := racJ_all hs l ha
  rw [heo, hao] at hall
  have hoc : onCell l ob k = true := by unfold onCell; rw [ha, heo]; simp
  have hyes := accL_yes l k ob hoc
  rw [hao] at hyes
  have hnoc : ∀ c, c ≠ ob → accL l (k + 1) c = accL l k c := fun c hc => accL_no l k c (by unfold onCell; rw [heo]; simp [Ne.symm hc])
  obtain ⟨al, eal⟩ : ∃ X, accL l k ob = X := ⟨_, rfl⟩
  obtain ⟨a8, c8, e8⟩ := (hS.rows ob).form
  rw [eal] at e8 hall hyes
  have hkl : al.length ≤ k := by rw [← eal]; exact accL_len l k ob
  obtain ⟨kk, ekk⟩ : ∃ X, al.length = X := ⟨_, rfl⟩
  rw [ekk] at e8 hkl hall
  obtain ⟨W1, e1, hB1, k0, k1⟩ := two_new w (.cells #[.int .i64 tk, .int .i64 op, .int .i64 ob, .int .i64 vl] 41 (0, 0)) (.cells #[.int .i64 (k : Int), .int .i64 tk, .bool (op == 13)] 88 (0, 0))
  have hS1 := hS.below hB1
  have HLW0 := hide (fun j' (hj' : (sv ob).ownBlock = some j') => ((hS.rows ob).lt j' hj').2)
  have hrow := hS1.rows ob
  rw [eal, e8] at hrow
  have hlk := ms_look (t := 84) (e := 89) Try.underlying84 (z := .slice none 0 0) (fun w => by kernel_rfl) W1 B ks sv hS1.map hS1.zero ob
  have hlkd := ms_look (t := 84) (e := 89) Try.underlying84 (z := .slice none 0 0) (fun w => by kernel_rfl) W1.drew B ks sv hS1.map hS1.zero ob
  rw [e8] at hlk hlkd
  have HMEM : Hid (∀ j, j < kk → ∃ p t s, al.getD j acc0 = ⟨p, t, s⟩ ∧ p < nn ∧ 1 ≤ t ∧ t ≤ (m : Int)) := fun j hj => by
    have hme : al.getD j acc0 ∈ accL l k ob := by rw [eal]; exact getD_mem (by omega)
    obtain ⟨h1, h2, h3⟩ := accL_mem hme
    obtain ⟨⟨p, t, s⟩, e⟩ : ∃ X, al.getD j acc0 = X := ⟨_, rfl⟩
    rw [e] at h1 h2
    have ht : t = (l.getD p ev0).task := by unfold accOf at h2; simp at h2; exact h2.1
    have h4 := (hg.ev (j := p) (by have : p < k := h1; omega)).t1
    have h5 := last_task l (j := p) (by have : p < k := h1; omega)
    exact ⟨p, t, s, e, by have : p < k := h1; omega, by omega, by omega⟩
  have HLI : Hid (0 < kk → ∃ b o, a8 = some ⟨b, o, none⟩ ∧ b < W1.heap.size ∧ Lies KA W1 b o al) := hrow.isl.opens ka ekk
  have HIR : Hid (∀ W p t s, Below W1.heap.size W1 W → p < nn → 1 ≤ t → t ≤ (m : Int) → Calls Try.prog 48 #[.pointer (some ⟨S, 0, none⟩), .agg #[.int .i64 ((p : Nat) : Int), .int .i64 t, .bool s], .agg #[.int .i64 (k : Int), .int .i64 tk, .bool (op == 13)]] W fun e w' => e = .returned (.bool (raceA hs l ⟨p, t, s⟩ ⟨k, tk, op == 13⟩)) ∧ Below W.heap.size W w') := fun W p t s hW hp ht1 ht2 => by
    have hbW : Below w0.heap.size w0 W := (hb0.trans (hB1.mono hb0.size)).trans (hW.mono (Nat.le_trans hb0.size hB1.size))
    exact isRace_any W S B w0.heap.size lo' G nn m ks sv l hs k (hS1.below hW) (hR.below hbW) p k t tk s (op == 13) hp hk ht1 ht2 hmm hn
  have HS1 := hide hS1
  have HB0 := hide hb0
  have HB1 := hide hB1
  have HK0 := hide k0; have HK1 := hide k1
  have HALL := hide hall; have HYES := hide hyes; have HNOC := hide hnoc; have HEAL := hide eal; have HE8 := hide e8; have HEKK := hide ekk
  have HROW := hide hrow
  have HE := hide e1
  obtain ⟨⟨q0, q1, q2, q3⟩, ⟨f0, f1, f2, f3⟩, ql⟩ := block4 k0
  obtain ⟨⟨n0, n1, n2⟩, ⟨nf0, nf1, nf2⟩, nl⟩ := block3 k1
  obtain ⟨s0, s1, sf0, sf1, sl⟩ := block2 hS1.blk
  have HQ0 := hide (new_block w (.cells #[.int .i64 tk, .int .i64 op, .int .i64 ob, .int .i64 vl] 41 (0, 0)))
  clear hS hR hg hm hb0 hall hyes hnoc eal e8 ekk hS1 hB1 k0 k1 ha hoc heo hao hop hrow e1 hmm
  go_enter Try.func38, Try.ntmps38
  go_upto_region 1 with fail
  obtain ⟨⟨r0, r1, r2, r3⟩, ⟨g0, g1, g2, g3⟩, rl⟩ := block4 (unhide HQ0)
  go_upto_region 5 with (go_at_call 47; (with_reducible refine Calls.mono (unhide HIA _) ?_); rintro e w1 ⟨rfl, rfl⟩)
  rw [unhide HE]
  clear HE HQ0 r0 r1 r2 r3 g0 g1 g2 g3 rl
  go_region
  go_wp2_with fail
  have HWD : Hid (Below W1.heap.size W1 W1.drew) := (Below.refl _ _).drew
  go_loopw [8, 30] (fun s8 s30 wr => ∃ (j : Nat) (a : Option Addr) (r c : Nat), j ≤ kk ∧ s30 = .int .i64 (j : Int) ∧ s8 = .slice a r c ∧ Hid ((racJ hs l al ⟨k, tk, op == 13⟩ j).length = r) ∧ Hid (Own KI W1.heap.size wr (.slice a r c) (racJ hs l al ⟨k, tk, op == 13⟩ j)) ∧ Hid (Below W1.heap.size W1 wr)) (fun _ s30 _ => kk - (intOf s30).toNat)
  case atStart => exact ⟨0, none, 0, 0, Nat.zero_le _, rfl, rfl, hide rfl, hide (own_nil _ _), HWD⟩
  case round =>
    obtain ⟨j, a, r, c, hj, rfl, rfl, HRL, HOR, HBR⟩ := hrel
    by_cases hlt : j < kk
    · obtain ⟨b8, o8, rfl, hb8, hli⟩ := unhide HLI (by omega)
      obtain ⟨p, t, s, eg, hp, ht1, ht2⟩ := unhide HMEM j hlt
      have hjl : j < al.length := by rw [unhide HEKK]; exact hlt
      obtain ⟨c0, c1, c2⟩ := (hli.below (unhide HBR) hb8).acc (j := j) hjl eg
      have i0 : (0 : Int) ≤ (j : Int) := by omega
      have i1 : (j : Int) < (kk : Int) := by omega
      have HEG := hide eg
      have HJL := hide hjl
      have HV4 := hide (new_block wr (.cells #[.int .i64 (p : Int), .int .i64 t, .bool s] 88 (0, 0))); have HB4 := hide ((unhide HBR).alloc (unhide HBR).size (.cells #[.int .i64 (p : Int), .int .i64 t, .bool s] 88 (0, 0)))
      have HO4 := hide ((unhide HOR).below ((Below.refl _ _).alloc (Nat.le_refl _) (.cells #[.int .i64 (p : Int), .int .i64 t, .bool s] 88 (0, 0))))
      clear q0 q1 q2 q3 f0 f1 f2 f3 ql n0 n1 n2 nf0 nf1 nf2 nl s0 s1 sf0 sf1 sl hli eg hjl HOR
      go_upto_region 8 with fail
      obtain ⟨V, eV⟩ : ∃ X, wr.heap.size = X := ⟨_, rfl⟩
      obtain ⟨W4, e4⟩ : ∃ X, wr.alloc (.cells #[.int .i64 (p : Int), .int .i64 t, .bool s] 88 (0, 0)) = X := ⟨_, rfl⟩
      rw [e4] at HB4 HO4; rw [eV, e4] at HV4; rw [eV, e4]
      obtain ⟨⟨v0, v1, v2⟩, -, vl⟩ := block3 (unhide HV4)
      obtain ⟨⟨n0, n1, n2⟩, -, nl⟩ := block3 (keep_below (unhide HK1) (unhide HB4))
      clear e4 eV c0 c1 c2
      have HIR2 := hide (unhide HIR W4 p t s (unhide HB4) hp ht1 ht2)
      obtain ⟨bR, hR⟩ : ∃ X, raceA hs l ⟨p, t, s⟩ ⟨k, tk, op == 13⟩ = X := ⟨_, rfl⟩
      have HBV := hide hR
      rw [hR] at HIR2
      clear hR
      cases bR
      · have HRJ := hide (racJ_no hs l al ⟨k, tk, op == 13⟩ (unhide HJL) (by rw [unhide HEG]; exact unhide HBV))
        go_wp2_with (go_at_call 48; (with_reducible refine Calls.mono (unhide HIR2) ?_); rintro e w5 ⟨rfl, hb5⟩; have HB5 := hide (Below.next (unhide HB4) hb5 (Nat.le_refl _)); have HO5 := hide ((unhide HO4).below hb5); clear hb5)
        go_roundw
        case rel => exact ⟨j + 1, a, r, c, by omega, by go_num, rfl, hide (by rw [unhide HRJ]; exact unhide HRL), hide (by rw [unhide HRJ]; exact unhide HO5), HB5⟩
        case measure => simp [intOf]; omega
      · have HRJ := hide (racJ_yes hs l al ⟨k, tk, op == 13⟩ (unhide HJL) (by rw [unhide HEG]; exact unhide HBV))
        have hrj := racJ_len hs l al ⟨k, tk, op == 13⟩ j
        rw [unhide HRL] at hrj
        go_upto_region 9 with (go_at_call 48; (with_reducible refine Calls.mono (unhide HIR2) ?_); rintro e w5 ⟨rfl, hb5⟩; have HB5 := hide (Below.next (unhide HB4) hb5 (Nat.le_refl _)); have HO5 := hide ((unhide HO4).below hb5); have HV5 := hide (keep_below (unhide HV4) hb5); clear hb5)
        clear v0 v1 v2 vl n0 n1 n2 nl
        obtain ⟨⟨v0, v1, v2⟩, -, vl⟩ := block3 (unhide HV5)
        have HO6 := hide ((unhide HO5).below ((Below.refl _ _).alloc (Nat.le_refl _) (.cells #[.int .i64 (p : Int)] 3)))
        have HB6 := hide ((unhide HB5).alloc (unhide HB5).size (.cells #[.int .i64 (p : Int)] 3))
        have HI6 := hide (isl_one ki w5 (p : Int))
        go_upto_region 10 with (at_builtin; refine wpList_append ki rfl (.tmp 38) (.tmp 41) rfl W1.heap.size _ (racJ hs l al ⟨k, tk, op == 13⟩ j) rfl (unhide HO6) _ [(p : Int)] rfl (unhide HI6) (r + 1) (by rw [unhide HRL]; rfl) (by show (r + 1) * 8 ≤ 140737488355328; omega) (unhide HB6).size ?_; intro a6 c6 w6 ho6 hg6; have HO7 := hide ho6; have HB7 := hide ((unhide HB6).grown hg6 (unhide HB6).size (fun k hk => ((unhide HO6).lt k hk).1)); clear ho6 hg6)
        clear v0 v1 v2 vl
        go_wp2_with fail
        go_roundw
        case rel => exact ⟨j + 1, a6, r + 1, c6, by omega, by go_num, rfl, hide (by rw [unhide HRJ, List.length_append, unhide HRL]; rfl), hide (by rw [unhide HRJ, unhide HEG]; exact unhide HO7), HB7⟩
        case measure => simp [intOf]; omega
    · obtain rfl : j = kk := by omega
      have i1 : ¬ (j : Int) < (j : Int) := by omega
      have hrr : (racing hs l k).length = r := by
        have h1 := unhide HALL
        have h2 := unhide HRL
        rw [h1, List.length_map] at h2
        exact h2
      have HSR := hide ((unhide HS1).below (unhide HBR))
      have HSD := hide ((unhide HSR).below ((Below.refl wr.heap.size wr).drew.alloc (Nat.le_refl _) (.cells #[.int .i64 (k : Int), .int .i64 tk, .bool (op == 13)] 88 (0, 0))))
      obtain ⟨W9, e9⟩ : ∃ X, wr.drew.alloc (.cells #[.int .i64 (k : Int), .int .i64 tk, .bool (op == 13)] 88 (0, 0)) = X := ⟨_, rfl⟩
      have hB9 : Below wr.heap.size wr W9 := by rw [← e9]; exact (Below.refl wr.heap.size wr).drew.alloc (Nat.le_refl _) (.cells #[.int .i64 (k : Int), .int .i64 tk, .bool (op == 13)] 88 (0, 0))
      have HS9 := hide ((unhide HSR).below hB9)
      have HLKd : Hid ((Instr.lookup 84 (.map (some B)) (.int .i64 ob) false).run Try.prog wr.drew = .ok (.slice a8 j c8) wr.drew) := by
        have h0 := ms_look (t := 84) (e := 89) Try.underlying84 (z := .slice none 0 0) (fun w => by kernel_rfl) wr.drew B ks sv (unhide HSR).map (unhide HSR).zero ob
        rw [unhide HE8] at h0
        exact h0
      have HLK9 : Hid ((Instr.lookup 84 (.map (some B)) (.int .i64 ob) false).run Try.prog W9 = .ok (.slice a8 j c8) W9) := by
        have h0 := ms_look (t := 84) (e := 89) Try.underlying84 (z := .slice none 0 0) (fun w => by kernel_rfl) W9 B ks sv (unhide HS9).map (unhide HS9).zero ob
        rw [unhide HE8] at h0
        exact h0
      have hoa := (unhide HS9).rows ob
      rw [unhide HE8, unhide HEAL] at hoa
      have HOA := hide hoa
      have HLW : Hid (∀ j', (.slice a8 j c8 : Value).ownBlock = some j' → j' < w.heap.size) := fun j' hj' => unhide HLW0 j' (by rw [unhide HE8]; exact hj')
      have HLN : Hid (al.length + [(⟨k, tk, op == 13⟩ : Acc)].length = j + 1) := by show _ = _; rw [unhide HEKK]; rfl
      have HSZ : Hid (w0.heap.size ≤ W9.heap.size) := Nat.le_trans (unhide HB0).size (Nat.le_trans (unhide HB1).size (Nat.le_trans (unhide HBR).size hB9.size))
      have HIO : Hid (IsL KA W9 (.slice (some ⟨wr.drew.heap.size, 0, none⟩) 1 1) [⟨k, tk, op == 13⟩]) := by rw [← e9]; exact isl_one ka wr.drew ⟨k, tk, op == 13⟩
      have HBS : Hid ((Instr.buildSlice 89 1 #[(0, .agg #[.int .i64 (k : Int), .int .i64 tk, .bool (op == 13)])]).run Try.prog wr.drew = .ok (.slice (some ⟨wr.drew.heap.size, 0, none⟩) 1 1) W9) := by rw [← e9]; exact bs_acc wr.drew _ _ _
      have HSX : Hid (∀ W' : World, W'.heap[w.heap.size]? = some (.cells #[.int .i64 tk, .int .i64 op, .int .i64 ob, .int .i64 vl] 41 (0, 0)) → W'.heap[S]? = some (.cells #[.slice (some ⟨G, 0, none⟩) nn nn, .map (some B)] 86 (0, 0)) → W'.heap[w.heap.size + 1]? = some (.cells #[.int .i64 (k : Int), .int .i64 tk, .bool (op == 13)] 88 (0, 0)) → W'.cell? ⟨w.heap.size, 2, none⟩ = some (.int .i64 ob) ∧ W'.cell? ⟨S, 1, none⟩ = some (.map (some B)) ∧ W'.cell? ⟨w.heap.size + 1, 0, none⟩ = some (.int .i64 (k : Int)) ∧ W'.cell? ⟨w.heap.size + 1, 1, none⟩ = some (.int .i64 tk) ∧ W'.cell? ⟨w.heap.size + 1, 2, none⟩ = some (.bool (op == 13))) := fun W' h1 h2 h3 => by
        obtain ⟨⟨-, -, k2, -⟩, -, -⟩ := block4 h1
        obtain ⟨-, k3, -, -, -⟩ := block2 h2
        obtain ⟨⟨k4, k5, k6⟩, -, -⟩ := block3 h3
        exact ⟨k2, k3, k4, k5, k6⟩
      have hE1 := keep_below (unhide HK0) (unhide HBR)
      have hE3 := keep_below (unhide HK1) (unhide HBR)
      have HE1 := hide hE1; have HE3 := hide hE3
      have HSS0 : Hid (wr.drew.cell? ⟨w.heap.size, 2, none⟩ = some (.int .i64 ob) ∧ wr.drew.cell? ⟨S, 1, none⟩ = some (.map (some B)) ∧ wr.drew.cell? ⟨w.heap.size + 1, 0, none⟩ = some (.int .i64 (k : Int)) ∧ wr.drew.cell? ⟨w.heap.size + 1, 1, none⟩ = some (.int .i64 tk) ∧ wr.drew.cell? ⟨w.heap.size + 1, 2, none⟩ = some (.bool (op == 13))) := unhide HSX _ hE1 (unhide HSR).blk hE3
      have HSS1 : Hid (W9.cell? ⟨w.heap.size, 2, none⟩ = some (.int .i64 ob) ∧ W9.cell? ⟨S, 1, none⟩ = some (.map (some B)) ∧ W9.cell? ⟨w.heap.size + 1, 0, none⟩ = some (.int .i64 (k : Int)) ∧ W9.cell? ⟨w.heap.size + 1, 1, none⟩ = some (.int .i64 tk) ∧ W9.cell? ⟨w.heap.size + 1, 2, none⟩ = some (.bool (op == 13))) := unhide HSX _ (keep_below hE1 hB9) (unhide HS9).blk (keep_below hE3 hB9)
      have HG6 : Hid (∀ (w6 : World) a6 c6, Own KA w0.heap.size w6 (.slice a6 (j + 1) c6) (al ++ [⟨k, tk, op == 13⟩]) → W9.grownBy w6 (.slice a8 j c8 : Value).ownBlock → (∀ k, (Value.slice a6 (j + 1) c6).ownBlock = some k → (.slice a8 j c8 : Value).ownBlock = some k ∨ W9.heap.size ≤ k) → (w6.cell? ⟨w.heap.size, 2, none⟩ = some (.int .i64 ob) ∧ w6.cell? ⟨S, 1, none⟩ = some (.map (some B)) ∧ w6.cell? ⟨w.heap.size + 1, 0, none⟩ = some (.int .i64 (k : Int)) ∧ w6.cell? ⟨w.heap.size + 1, 1, none⟩ = some (.int .i64 tk) ∧ w6.cell? ⟨w.heap.size + 1, 2, none⟩ = some (.bool (op == 13))) ∧ ∃ ks2 W7, (Instr.mapUpdate 84 (.map (some B)) (.int .i64 ob) (.slice a6 (j + 1) c6)).run Try.prog w6 = .ok () W7 ∧ (W7.cell? ⟨w.heap.size, 2, none⟩ = some (.int .i64 ob) ∧ W7.cell? ⟨S, 1, none⟩ = some (.map (some B)) ∧ W7.cell? ⟨w.heap.size + 1, 0, none⟩ = some (.int .i64 (k : Int)) ∧ W7.cell? ⟨w.heap.size + 1, 1, none⟩ = some (.int .i64 tk) ∧ W7.cell? ⟨w.heap.size + 1, 2, none⟩ = some (.bool (op == 13))) ∧ SeenAt w0.heap.size W7 S B (.slice (some ⟨G, 0, none⟩) nn nn) ks2 (updI sv ob (.slice a6 (j + 1) c6)) l (k + 1) ∧ Below w0.heap.size w0 W7 ∧ Own KI w.heap.size W7 (.slice a r c) (racJ hs l al ⟨k, tk, op == 13⟩ j) ∧ KtA w W7) := fun w6 a6 c6 h6 hg6 hl6 => by
        have hlw : ∀ j', (.slice a8 j c8 : Value).ownBlock = some j' → j' < w.heap.size := unhide HLW
        have hro := unhide HOA
        have p1 := keep_grown (keep_below (unhide HE1) hB9) hg6 (fun j' hj' => by have := hlw j' hj'; omega)
        have p2 := keep_grown (unhide HS9).blk hg6 (fun j' hj' => Own.ne hro (unhide HS9).blk (by decide) j' hj')
        have p3 := keep_grown (keep_below (unhide HE3) hB9) hg6 (fun j' hj' => by have := hlw j' hj'; omega)
        have pm := (unhide HS9).map_grown (unhide HE8) hg6
        obtain ⟨ks2, hnd2, hmem2, hup2⟩ := ms_upd (t := 84) (e := 89) Try.underlying84 ks sv (unhide HS9).nd ob (.slice a6 (j + 1) c6)
        have hst := (unhide HS9).step (unhide HE8) hg6 h6 hl6 (unhide HYES) (unhide HNOC) hnd2 hmem2
        have hne : ∀ b : Nat, ∀ A t f, w6.heap[b]? = some (.cells A t f) → b ≠ B := fun b A t f h e => by rw [e, pm] at h; cases h
        have hkp : ∀ b : Nat, ∀ A t f, w6.heap[b]? = some (.cells A t f) → (putObj w6 B (.map (msEnts ks2 (updI sv ob (.slice a6 (j + 1) c6))) ks2.length)).heap[b]? = some (.cells A t f) := fun b A t f h => (heap_putObj b (hne b A t f h)).trans h
        refine ⟨unhide HSX w6 p1 p2 p3, ks2, _, hup2 w6 B pm, unhide HSX _ (hkp _ _ _ _ p1) (hkp _ _ _ _ p2) (hkp _ _ _ _ p3), hst, ?_, ?_, fun b A t f h ht => hkp _ _ _ _ (keep_grown (keep_below (keep_below (keep_below h (unhide HB1)) (unhide HBR)) hB9) hg6 (fun j' hj' => Own.ne hro (keep_below (keep_below (keep_below h (unhide HB1)) (unhide HBR)) hB9) ht j' hj'))⟩
        · have h0 : Below w0.heap.size w0 W9 := ((unhide HB0).trans ((unhide HB1).mono (unhide HB0).size)).trans (((unhide HBR).trans (hB9.mono (unhide HBR).size)).mono (Nat.le_trans (unhide HB0).size (unhide HB1).size))
          exact below_putObj (h0.grown hg6 h0.size (fun k hk => (hro.lt k hk).1)) (unhide HS9).lb
        · have h1 : Own KI W1.heap.size W9 (.slice a r c) (racJ hs l al ⟨k, tk, op == 13⟩ j) := (unhide HOR).below hB9
          have h2 : Own KI W1.heap.size w6 (.slice a r c) (racJ hs l al ⟨k, tk, op == 13⟩ j) := h1.keep fun k' hk' => by
            obtain ⟨_, _, _, _, hb⟩ := hg6
            refine hb k' (h1.lt k' hk').2 ?_
            have h3 := (h1.lt k' hk').1
            have h4 := (unhide HB1).size
            cases e : (.slice a8 j c8 : Value).ownBlock with
            | none => simp
            | some j' => have := hlw j' e; simp; omega
          exact (h2.keep fun k' hk' => heap_putObj k' (h2.neM pm k' hk')).base (unhide HB1).size
      clear hE1 hE3 hB9 e9 hoa HSX q0 q1 q2 q3 f0 f1 f2 f3 ql n0 n1 n2 nf0 nf1 nf2 nl s0 s1 sf0 sf1 sl hlk hlkd HMEM HLI HIR
      go_upto_region 11 with fail
      refine wp_region_held_drew (S := (fun W' => W'.cell? ⟨w.heap.size, 2, none⟩ = some (.int .i64 ob) ∧ W'.cell? ⟨S, 1, none⟩ = some (.map (some B)) ∧ W'.cell? ⟨w.heap.size + 1, 0, none⟩ = some (.int .i64 (k : Int)) ∧ W'.cell? ⟨w.heap.size + 1, 1, none⟩ = some (.int .i64 tk) ∧ W'.cell? ⟨w.heap.size + 1, 2, none⟩ = some (.bool (op == 13)))) (by kernel_rfl) (unhide HSS0) (fun hHeld => ?_)
      refine wpAnyH_take (i := 0) (oi := { dst := some 44, op := Op.move (Operand.tmp 0), type := 67, pos := "seen.go:39", after := #[], guard := none }) (v := ?v0) rfl (by kernel_rfl) (by kernel_rfl) (by kernel_rfl) (fun _ _ _ h => h) (Or.inl ⟨by rfl, ?y0⟩) (by assumption) ?r0
      case y0 => (intro w hSw; (try dsimp only at hSw); go_simp; try with_reducible rfl)
      try simp only [Act.put, List.setIfInBounds_toArray, List.set_cons_zero, List.set_cons_succ]
      refine wpAnyH_take (i := 1) (oi := { dst := some 45, op := Op.nilCheck (Operand.tmp 44), type := 0, pos := "seen.go:39", after := #[{ on := 0, ground := Ground.data }], guard := none }) (v := ?v1) rfl (by kernel_rfl) (by kernel_rfl) (by kernel_rfl) (fun _ _ _ h => h) (Or.inl ⟨by rfl, ?y1⟩) (by assumption) ?r1
      case y1 => (intro w hSw; (try dsimp only at hSw); go_simp; try with_reducible rfl)
      try simp only [Act.put, List.setIfInBounds_toArray, List.set_cons_zero, List.set_cons_succ]
      refine wpAnyH_take (i := 2) (oi := { dst := some 46, op := Op.fieldAddr 86 (Operand.tmp 45) 1, type := 0, pos := "seen.go:39", after := #[{ on := 1, ground := Ground.data }], guard := none }) (v := ?v2) rfl (by kernel_rfl) (by kernel_rfl) (by kernel_rfl) (fun _ _ _ h => h) (Or.inl ⟨by rfl, ?y2⟩) (by assumption) ?r2
      case y2 => (intro w hSw; (try dsimp only at hSw); go_simp; try with_reducible rfl)
      try simp only [Act.put, List.setIfInBounds_toArray, List.set_cons_zero, List.set_cons_succ]
      refine wpAnyH_take (i := 3) (oi := { dst := some 47, op := Op.load 84 (Operand.tmp 46), type := 84, pos := "seen.go:39", after := #[{ on := 2, ground := Ground.data }], guard := none }) (v := ?v3) rfl (by kernel_rfl) (by kernel_rfl) (by kernel_rfl) (fun _ _ _ h => h) (Or.inl ⟨by rfl, ?y3⟩) (by assumption) ?r3
      case y3 => (intro w hSw; (try dsimp only at hSw); go_simp; try with_reducible rfl)
      try simp only [Act.put, List.setIfInBounds_toArray, List.set_cons_zero, List.set_cons_succ]
      refine wpAnyH_take (i := 4) (oi := { dst := some 48, op := Op.fieldAddr 41 (Operand.tmp 5) 2, type := 0, pos := "seen.go:39", after := #[], guard := none }) (v := ?v4) rfl (by kernel_rfl) (by kernel_rfl) (by kernel_rfl) (fun _ _ _ h => h) (Or.inl ⟨by rfl, ?y4⟩) (by assumption) ?r4
      case y4 => (intro w hSw; (try dsimp only at hSw); go_simp; try with_reducible rfl)
      try simp only [Act.put, List.setIfInBounds_toArray, List.set_cons_zero, List.set_cons_succ]
      refine wpAnyH_take (i := 5) (oi := { dst := some 49, op := Op.load 3 (Operand.tmp 48), type := 3, pos := "seen.go:39", after := #[{ on := 4, ground := Ground.data }], guard := none }) (v := ?v5) rfl (by kernel_rfl) (by kernel_rfl) (by kernel_rfl) (fun _ _ _ h => h) (Or.inl ⟨by rfl, ?y5⟩) (by assumption) ?r5
      case y5 => (intro w hSw; (try dsimp only at hSw); go_simp; try with_reducible rfl)
      try simp only [Act.put, List.setIfInBounds_toArray, List.set_cons_zero, List.set_cons_succ]
      refine wpAnyH_take (i := 6) (oi := { dst := some 50, op := Op.move (Operand.tmp 0), type := 67, pos := "seen.go:39", after := #[], guard := none }) (v := ?v6) rfl (by kernel_rfl) (by kernel_rfl) (by kernel_rfl) (fun _ _ _ h => h) (Or.inl ⟨by rfl, ?y6⟩) (by assumption) ?r6
      case y6 => (intro w hSw; (try dsimp only at hSw); go_simp; try with_reducible rfl)
      try simp only [Act.put, List.setIfInBounds_toArray, List.set_cons_zero, List.set_cons_succ]
      refine wpAnyH_take (i := 7) (oi := { dst := some 51, op := Op.nilCheck (Operand.tmp 50), type := 0, pos := "seen.go:39", after := #[{ on := 6, ground := Ground.data }], guard := none }) (v := ?v7) rfl (by kernel_rfl) (by kernel_rfl) (by kernel_rfl) (fun _ _ _ h => h) (Or.inl ⟨by rfl, ?y7⟩) (by assumption) ?r7
      case y7 => (intro w hSw; (try dsimp only at hSw); go_simp; try with_reducible rfl)
      try simp only [Act.put, List.setIfInBounds_toArray, List.set_cons_zero, List.set_cons_succ]
      refine wpAnyH_take (i := 8) (oi := { dst := some 52, op := Op.fieldAddr 86 (Operand.tmp 51) 1, type := 0, pos := "seen.go:39", after := #[{ on := 7, ground := Ground.data }], guard := none }) (v := ?v8) rfl (by kernel_rfl) (by kernel_rfl) (by kernel_rfl) (fun _ _ _ h => h) (Or.inl ⟨by rfl, ?y8⟩) (by assumption) ?r8
      case y8 => (intro w hSw; (try dsimp only at hSw); go_simp; try with_reducible rfl)
      try simp only [Act.put, List.setIfInBounds_toArray, List.set_cons_zero, List.set_cons_succ]
      refine wpAnyH_take (i := 9) (oi := { dst := some 53, op := Op.load 84 (Operand.tmp 52), type := 84, pos := "seen.go:39", after := #[{ on := 8, ground := Ground.data }], guard := none }) (v := ?v9) rfl (by kernel_rfl) (by kernel_rfl) (by kernel_rfl) (fun _ _ _ h => h) (Or.inl ⟨by rfl, ?y9⟩) (by assumption) ?r9
      case y9 => (intro w hSw; (try dsimp only at hSw); go_simp; try with_reducible rfl)
      try simp only [Act.put, List.setIfInBounds_toArray, List.set_cons_zero, List.set_cons_succ]
      refine wpAnyH_take (i := 10) (oi := { dst := some 54, op := Op.fieldAddr 41 (Operand.tmp 5) 2, type := 0, pos := "seen.go:39", after := #[], guard := none }) (v := ?v10) rfl (by kernel_rfl) (by kernel_rfl) (by kernel_rfl) (fun _ _ _ h => h) (Or.inl ⟨by rfl, ?y10⟩) (by assumption) ?r10
      case y10 => (intro w hSw; (try dsimp only at hSw); go_simp; try with_reducible rfl)
      try simp only [Act.put, List.setIfInBounds_toArray, List.set_cons_zero, List.set_cons_succ]
      refine wpAnyH_take (i := 11) (oi := { dst := some 55, op := Op.load 3 (Operand.tmp 54), type := 3, pos := "seen.go:39", after := #[{ on := 10, ground := Ground.data }], guard := none }) (v := ?v11) rfl (by kernel_rfl) (by kernel_rfl) (by kernel_rfl) (fun _ _ _ h => h) (Or.inl ⟨by rfl, ?y11⟩) (by assumption) ?r11
      case y11 => (intro w hSw; (try dsimp only at hSw); go_simp; try with_reducible rfl)
      try simp only [Act.put, List.setIfInBounds_toArray, List.set_cons_zero, List.set_cons_succ]
      refine wpAnyH_take (i := 13) (oi := { dst := some 57, op := Op.load 88 (Operand.tmp 7), type := 88, pos := "seen.go:39", after := #[], guard := none }) (v := ?v13) rfl (by kernel_rfl) (by kernel_rfl) (by kernel_rfl) (fun _ _ _ h => h) (Or.inl ⟨by rfl, ?y13⟩) (by assumption) ?r13
      case y13 => (intro w hSw; (try dsimp only at hSw); go_simp; try with_reducible rfl)
      try simp only [Act.put, List.setIfInBounds_toArray, List.set_cons_zero, List.set_cons_succ]
      refine wpAnyH_ready (rs := [12, 14]) (by kernel_rfl) (by simp) ?_
      refine AllReadyH.cons (o := { dst := some 56, op := Op.lookup 84 (Operand.tmp 53) (Operand.tmp 55) false, type := 89, pos := "seen.go:39", after := #[{ on := 9, ground := Ground.data }, { on := 11, ground := Ground.data }], guard := none }) rfl (fun K hK => ?_) (AllReadyH.cons (o := { dst := some 58, op := Op.buildSlice 89 1 #[(0, Operand.tmp 57)], type := 89, pos := "seen.go:39", after := #[{ on := 13, ground := Ground.data }], guard := none }) rfl (fun K hK => ?_) AllReadyH.nil)
      · refine step_run rfl (val_run (by exact unhide HLKd)) ?_
        refine hK.out _ _ (unhide HSS0) (fun hHeld => ?_)
        clear hK K
        try simp only [Act.put, List.setIfInBounds_toArray, List.set_cons_zero, List.set_cons_succ]
        refine wpAnyH_ready (rs := [14]) (by kernel_rfl) (by simp) ?_
        refine AllReadyH.cons (o := { dst := some 58, op := Op.buildSlice 89 1 #[(0, Operand.tmp 57)], type := 89, pos := "seen.go:39", after := #[{ on := 13, ground := Ground.data }], guard := none }) rfl (fun K hK => ?_) AllReadyH.nil
        refine step_run rfl (val_run (by simp only [List.map_toArray, List.map_cons, List.map_nil]; exact unhide HBS)) ?_
        refine hK.out _ _ (unhide HSS1) (fun hHeld => ?_)
        clear hK K
        try simp only [Act.put, List.setIfInBounds_toArray, List.set_cons_zero, List.set_cons_succ]
        refine wpAnyH_ready (rs := [15]) (by kernel_rfl) (by simp) ?_
        refine AllReadyH.cons (o := { dst := some 59, op := Op.call { callee := Callee.builtin Builtin.append, args := #[Operand.tmp 56, Operand.tmp 58], argTypes := #[89, 89] }, type := 89, pos := "seen.go:39", after := #[{ on := 12, ground := Ground.data }, { on := 14, ground := Ground.data }], guard := none }) rfl (fun K hK => ?_) AllReadyH.nil
        (refine step_append2 ka rfl (.tmp 56) (.tmp 58) rfl w0.heap.size (.slice a8 j c8) al rfl (unhide HOA) _ [⟨k, tk, op == 13⟩] rfl (unhide HIO) (j + 1) (unhide HLN) (by show (j + 1) * 24 ≤ 140737488355328; omega) (unhide HSZ) ?_; intro a9 c9 w9 ho9 hg9 hl9; obtain ⟨hq6, ks2, W7, hu, hq7, hS7, hB7, hV7, hT7⟩ := unhide HG6 w9 a9 c9 ho9 hg9 hl9; have HQ6 := hide hq6; have HQ7 := hide hq7; have HS7 := hide hS7; have HB7 := hide hB7; have HV7 := hide hV7; have HT7 := hide hT7; have HU := hide hu; clear ho9 hg9 hl9 hq6 hq7 hS7 hB7 hV7 hT7 hu)
        refine hK.out _ _ (unhide HQ6) (fun hHeld => ?_)
        clear hK K
        try simp only [Act.put, List.setIfInBounds_toArray, List.set_cons_zero, List.set_cons_succ]
        refine wpAnyH_ready (rs := [16]) (by kernel_rfl) (by simp) ?_
        refine AllReadyH.cons (o := { dst := none, op := Op.mapUpdate 84 (Operand.tmp 47) (Operand.tmp 49) (Operand.tmp 59), type := 0, pos := "seen.go:39", after := #[{ on := 3, ground := Ground.data }, { on := 5, ground := Ground.data }, { on := 15, ground := Ground.data }, { on := 15, ground := Ground.chain }, { on := 0, ground := Ground.phase }, { on := 1, ground := Ground.phase }, { on := 2, ground := Ground.phase }, { on := 3, ground := Ground.phase }, { on := 4, ground := Ground.phase }, { on := 5, ground := Ground.phase }, { on := 6, ground := Ground.phase }, { on := 7, ground := Ground.phase }, { on := 8, ground := Ground.phase }, { on := 9, ground := Ground.phase }, { on := 10, ground := Ground.phase }, { on := 11, ground := Ground.phase }, { on := 12, ground := Ground.phase }, { on := 13, ground := Ground.phase }, { on := 14, ground := Ground.phase }, { on := 15, ground := Ground.phase }], guard := none }) rfl (fun K hK => ?_) AllReadyH.nil
        have hu := unhide HU; go_simp
        refine hK.out _ _ (unhide HQ7) (fun hHeld => ?_)
        clear hK K
        try simp only [Act.put, List.setIfInBounds_toArray, List.set_cons_zero, List.set_cons_succ]
        refine wpAnyH_done (by kernel_rfl) ?_ _
        go_wp2_with fail
        go_ret
        exact ⟨a, c, rfl, by rw [← unhide HALL]; exact unhide HV7, ⟨ks2, _, unhide HS7⟩, unhide HB7, unhide HT7⟩
      · refine step_run rfl (val_run (by simp only [List.map_toArray, List.map_cons, List.map_nil]; exact unhide HBS)) ?_
        refine hK.out _ _ (unhide HSS1) (fun hHeld => ?_)
        clear hK K
        try simp only [Act.put, List.setIfInBounds_toArray, List.set_cons_zero, List.set_cons_succ]
        refine wpAnyH_ready (rs := [12]) (by kernel_rfl) (by simp) ?_
        refine AllReadyH.cons (o := { dst := some 56, op := Op.lookup 84 (Operand.tmp 53) (Operand.tmp 55) false, type := 89, pos := "seen.go:39", after := #[{ on := 9, ground := Ground.data }, { on := 11, ground := Ground.data }], guard := none }) rfl (fun K hK => ?_) AllReadyH.nil
        refine step_run rfl (val_run (by exact unhide HLK9)) ?_
        refine hK.out _ _ (unhide HSS1) (fun hHeld => ?_)
        clear hK K
        try simp only [Act.put, List.setIfInBounds_toArray, List.set_cons_zero, List.set_cons_succ]
        refine wpAnyH_ready (rs := [15]) (by kernel_rfl) (by simp) ?_
        refine AllReadyH.cons (o := { dst := some 59, op := Op.call { callee := Callee.builtin Builtin.append, args := #[Operand.tmp 56, Operand.tmp 58], argTypes := #[89, 89] }, type := 89, pos := "seen.go:39", after := #[{ on := 12, ground := Ground.data }, { on := 14, ground := Ground.data }], guard := none }) rfl (fun K hK => ?_) AllReadyH.nil
        (refine step_append2 ka rfl (.tmp 56) (.tmp 58) rfl w0.heap.size (.slice a8 j c8) al rfl (unhide HOA) _ [⟨k, tk, op == 13⟩] rfl (unhide HIO) (j + 1) (unhide HLN) (by show (j + 1) * 24 ≤ 140737488355328; omega) (unhide HSZ) ?_; intro a9 c9 w9 ho9 hg9 hl9; obtain ⟨hq6, ks2, W7, hu, hq7, hS7, hB7, hV7, hT7⟩ := unhide HG6 w9 a9 c9 ho9 hg9 hl9; have HQ6 := hide hq6; have HQ7 := hide hq7; have HS7 := hide hS7; have HB7 := hide hB7; have HV7 := hide hV7; have HT7 := hide hT7; have HU := hide hu; clear ho9 hg9 hl9 hq6 hq7 hS7 hB7 hV7 hT7 hu)
        refine hK.out _ _ (unhide HQ6) (fun hHeld => ?_)
        clear hK K
        try simp only [Act.put, List.setIfInBounds_toArray, List.set_cons_zero, List.set_cons_succ]
        refine wpAnyH_ready (rs := [16]) (by kernel_rfl) (by simp) ?_
        refine AllReadyH.cons (o := { dst := none, op := Op.mapUpdate 84 (Operand.tmp 47) (Operand.tmp 49) (Operand.tmp 59), type := 0, pos := "seen.go:39", after := #[{ on := 3, ground := Ground.data }, { on := 5, ground := Ground.data }, { on := 15, ground := Ground.data }, { on := 15, ground := Ground.chain }, { on := 0, ground := Ground.phase }, { on := 1, ground := Ground.phase }, { on := 2, ground := Ground.phase }, { on := 3, ground := Ground.phase }, { on := 4, ground := Ground.phase }, { on := 5, ground := Ground.phase }, { on := 6, ground := Ground.phase }, { on := 7, ground := Ground.phase }, { on := 8, ground := Ground.phase }, { on := 9, ground := Ground.phase }, { on := 10, ground := Ground.phase }, { on := 11, ground := Ground.phase }, { on := 12, ground := Ground.phase }, { on := 13, ground := Ground.phase }, { on := 14, ground := Ground.phase }, { on := 15, ground := Ground.phase }], guard := none }) rfl (fun K hK => ?_) AllReadyH.nil
        have hu := unhide HU; go_simp
        refine hK.out _ _ (unhide HQ7) (fun hHeld => ?_)
        clear hK K
        try simp only [Act.put, List.setIfInBounds_toArray, List.set_cons_zero, List.set_cons_succ]
        refine wpAnyH_done (by kernel_rfl) ?_ _
        go_wp2_with fail
        go_ret
        exact ⟨a, c, rfl, by rw [← unhide HALL]; exact unhide HV7, ⟨ks2, _, unhide HS7⟩, unhide HB7, unhide HT7⟩
end Go.Proofs.Ytbnmeeabpjmcoaa
