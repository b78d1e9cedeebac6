/-
  taskmilllaw.CellWins: its picks, its order, and what it leads to.
-/
import Derived.Test.YtpgokeogijpmaaaDoorMj
namespace Go.Proofs.YtpgokeogijpmaaaDoor.Mx
open Go.RowKit

/-- The law's tasks stand. -/
structure Wi (w W : World) (h : Int) (ws : List Int) (v7 : Value) (us : List Sl) : Prop where
  be : Below w.heap.size w W
  row : Own KQ w.heap.size W v7 us
  ts : TsAt W h ws us ws.length
theorem Wi.keep {w W W' : World} {h : Int} {ws : List Int} {v7 : Value} {us : List Sl} (hi : Wi w W h ws v7 us) (hb : Below W.heap.size W W') : Wi w W' h ws v7 us := ⟨Below.next hi.be hb (Nat.le_refl _), hi.row.below hb, hi.ts.below hb⟩
theorem Wi.grown {w W W' : World} {h : Int} {ws : List Int} {v7 v10 : Value} {us : List Sl} {zs : List Int} (hi : Wi w W h ws v7 us) (ho : Own KI w.heap.size W v10 zs) (o : Obj) (hg : (W.alloc o).grownBy W' v10.ownBlock) : Wi w W' h ws v7 us := by
  have hne : ∀ k x e, W.heap[k]? = some (.cells x e (0, 0)) → e ≠ 3 → v10.ownBlock ≠ some k := fun k x e hk he h0 => by
    obtain ⟨cur, h1⟩ := own_block ho k h0
    rw [hk] at h1
    injection h1 with h1
    injection h1 with _ h1
    exact he h1
  have hb : Below w.heap.size w (W.alloc o) := hi.be.alloc hi.be.size o
  refine ⟨hb.grown hg hb.size (fun k hk => (ho.lt k hk).1), hi.row.keep fun k hk => ?_, hi.ts.len, fun k hk => ?_⟩
  · obtain ⟨cur, h1⟩ := own_block hi.row k hk
    rw [keep_grown (keep_alloc h1 o) hg (fun j hj e => hne k cur 23 h1 (by decide) (by rw [hj, e])), h1]
  · obtain ⟨b, e1, e2⟩ := hi.ts.each k hk
    exact ⟨b, e1, keep_grown (keep_alloc e2 o) hg (fun j hj e => hne b _ 55 e2 (by decide) (by rw [hj, e]))⟩

set_option maxRecDepth 100000 in
set_option maxHeartbeats 4000000 in
theorem wins_mid (w : World) (h : Int) (a1 : Option Addr) (n c1 : Nat) (ws : List Int) (a7 : Option Addr) (c7 : Nat) (us : List Sl) (a10 : Option Addr) (n10 c10 : Nat) (ps : List Int) (hn0 : 0 < n) (hn : n ≤ 64) (hW : IsL KI w (.slice a1 n c1) ws) (hne : ∀ i, i < n → ws.getD i 0 ≠ h) (hps : ∀ x ∈ ps, 0 ≤ x ∧ x < n) (hlp : ps.length ≤ 4000) (Wt : World) (hI : Wi w Wt h ws (.slice a7 n c7) us) (hO : Own KI w.heap.size Wt (.slice a10 n10 c10) (ps ++ upTo n))
    {s2 s3 s4 s5 s6 s8 s9 s11 s12 s13 s14 s15 s16 s17 s18 s19 s20 s21 s22 s23 s24 s25 s26 s27 s28 s29 s30 s31 s32 s33 s34 s35 s36 s37 s38 s39 s40 s41 s42 s43 s44 s45 s46 s47 s48 s49 s50 s51 s52 s53 s54 s55 s56 s57 s58 s59 s60 s61 s62 s63 s64 s65 s66 s67 s68 s69 s70 s71 s72 s73 s74 s75 s76 s77 s78 s79 s80 s81 s82 s83 s84 s85 s86 s87 s88 s89 s90 s91 s92 s93 s94 s95 s96 s97 s98 s99 s100 s101 s102 s103 s104 s105 s106 s107 s108 s109 s110 s111 s112 s113 s114 s115 s116 s117 s118 s119 s120 s121 s122 s123 s124 s125 s126 s127 s128 s129 s130 s131 s132 s133 s134 s135 s136 s137 s138 s139 s140 s141 s142 s143 s144 s145 s146 s147 s148 s149 s150 s151 s152 s153 s154 s155 s156 s157 s158 s159 s160 s161 : Value} (b r : Code) (hcut : (Tryd.f8.body.bind (loopFor 4)) = some (b, r)) :
    r.wp Tryd.prog (bodyPost Tryd.prog Tryd.f8 fun e w' => e = .returned (.bool true) ∧ Below w.heap.size w w') { tmps := (.int .i64 h :: .slice a1 n c1 :: s2 :: s3 :: s4 :: s5 :: s6 :: .slice a7 n c7 :: s8 :: s9 :: .slice a10 n10 c10 :: s11 :: s12 :: s13 :: s14 :: s15 :: s16 :: s17 :: s18 :: s19 :: s20 :: s21 :: s22 :: s23 :: s24 :: s25 :: s26 :: s27 :: s28 :: s29 :: s30 :: s31 :: s32 :: s33 :: s34 :: s35 :: s36 :: s37 :: s38 :: s39 :: s40 :: s41 :: s42 :: s43 :: s44 :: s45 :: s46 :: s47 :: s48 :: s49 :: s50 :: s51 :: s52 :: s53 :: s54 :: s55 :: s56 :: s57 :: s58 :: s59 :: s60 :: s61 :: s62 :: s63 :: s64 :: s65 :: s66 :: s67 :: s68 :: s69 :: s70 :: s71 :: s72 :: s73 :: s74 :: s75 :: s76 :: s77 :: s78 :: s79 :: s80 :: s81 :: s82 :: s83 :: s84 :: s85 :: s86 :: s87 :: s88 :: s89 :: s90 :: s91 :: s92 :: s93 :: s94 :: s95 :: s96 :: s97 :: s98 :: s99 :: s100 :: s101 :: s102 :: s103 :: s104 :: s105 :: s106 :: s107 :: s108 :: s109 :: s110 :: s111 :: s112 :: s113 :: s114 :: s115 :: s116 :: s117 :: s118 :: s119 :: s120 :: s121 :: s122 :: s123 :: s124 :: s125 :: s126 :: s127 :: s128 :: s129 :: s130 :: s131 :: s132 :: s133 :: s134 :: s135 :: s136 :: s137 :: s138 :: s139 :: s140 :: s141 :: s142 :: s143 :: s144 :: s145 :: s146 :: s147 :: s148 :: s149 :: s150 :: s151 :: s152 :: s153 :: s154 :: s155 :: s156 :: s157 :: s158 :: s159 :: s160 :: s161 :: []).toArray, defers := [] } Wt := by
  have hcc : (Tryd.f8.body.bind (loopFor 4)) = some (_, _) := rfl
  rw [hcc] at hcut
  cases hcut
  clear hcc
  have hlw := hW.len
  have hl10 : n10 = ps.length + n := by
    have := hO.isl.len
    rw [List.length_append, upTo_len] at this
    omega
  obtain ⟨t0, ht, e0, eZ, eT⟩ := wins_mix (h := h) (ws := ws) (ps := ps) (by omega) (fun x hx => by have := hps x hx; omega) (fun i hi => hne i (by omega))
  rw [hlw] at ht e0 eZ eT
  have hb1 : Below Wt.heap.size Wt (Wt.alloc (.cells #[.int .i64 h] 3)) := (Below.refl _ _).alloc (Nat.le_refl _) _
  have hI1 := hI.keep hb1
  have hTs : IsTs (Wt.alloc (.cells #[.int .i64 h] 3)) (.slice a7 n c7) us (winT h ws) := hI1.ts.isTs hI1.row.isl
  have hm1 : IsInts (Wt.alloc (.cells #[.int .i64 h] 3)) (.slice (some ⟨Wt.heap.size, 0, none⟩) 1 1) [h] := ints_new1 Wt h 3
  have hP := (hO.below hb1).isl
  obtain ⟨⟨ZF, tF⟩, eA⟩ : ∃ s, mixAll (winT h ws) (ps ++ upTo n) ([h], List.replicate n []) = s := ⟨_, rfl⟩
  rw [eA] at eZ eT
  simp only at eZ eT
  subst eZ
  have hin : ∀ j, j < n10 → 0 ≤ (ps ++ upTo n).getD j 0 ∧ (ps ++ upTo n).getD j 0 < n := fun j hj => by
    have hlj : j < (ps ++ upTo n).length := by rw [List.length_append, upTo_len]; omega
    have hmem : (ps ++ upTo n).getD j 0 ∈ ps ++ upTo n := by
      rw [List.getD_eq_getElem?_getD, List.getElem?_eq_getElem hlj]
      exact List.getElem_mem hlj
    rcases List.mem_append.1 hmem with h1 | h1
    · exact hps _ h1
    · exact mem_upTo.1 h1
  have HMX : Hid (Calls Tryd.prog 19 #[.slice (some ⟨Wt.heap.size, 0, none⟩) 1 1, .slice a7 n c7, .slice a10 n10 c10] (Wt.alloc (.cells #[.int .i64 h] 3)) fun e w' => ∃ g9 c9 G, e = .returned (.tuple #[.slice (some ⟨g9, 0, none⟩) 1 c9, .slice (some ⟨G, 0, none⟩) n n, .agg #[.int .i64 0, .int .i64 0]]) ∧ (w'.cell? ⟨g9, 0, none⟩ = some (.int .i64 (ws.getD t0 0)) ∧ g9 < w'.heap.size) ∧ (∀ i, i < n → ∃ gi ci, w'.cell? ⟨G, i, none⟩ = some (.slice (some ⟨gi, 0, none⟩) 1 ci) ∧ w'.cell? ⟨gi, 0, none⟩ = some (.int .i64 (if i = t0 then 1 else 0)) ∧ G < w'.heap.size ∧ gi < w'.heap.size) ∧ Below (Wt.alloc (.cells #[.int .i64 h] 3)).heap.size (Wt.alloc (.cells #[.int .i64 h] 3)) w') := by
    refine (mix_ok (Wt.alloc (.cells #[.int .i64 h] 3)) (some ⟨Wt.heap.size, 0, none⟩) 1 1 a7 n c7 a10 n10 c10 [h] us (winT h ws) (ps ++ upTo n) hn (by omega) hm1 rfl hTs (by omega) (fun i hi => by rw [winT_at (by omega)]; exact win_fault h _) hP hin _ _ eA).mono ?_
    rintro e w' ⟨v9, G, B, R, Bm, us', rfl, hM⟩
    obtain ⟨g9, c9, rfl⟩ := own_addr hM.mem (Nat.zero_lt_succ _)
    refine ⟨g9, c9, G, rfl, ⟨(own_inti hM.mem (j := 0) (Nat.zero_lt_succ _)).1, (hM.mem.lt g9 rfl).2⟩, fun i hi => ?_, hM.be⟩
    have h1 := (own_ats hM.row (j := i) (by rw [hM.lu]; exact hi)).1
    have h2 := hM.each i hi
    rw [eT i hi] at h2
    obtain ⟨gi, ci, ev⟩ := own_addr h2 (by simp)
    rw [ev] at h1 h2
    exact ⟨gi, ci, h1, (own_inti h2 (j := 0) (Nat.zero_lt_succ _)).1, (hM.row.lt G rfl).2, (h2.lt gi rfl).2⟩
  obtain ⟨b1, o1, rfl, hbw, l1⟩ := hW.opens ki hlw (by omega)
  have cw := (l1.below hI.be hbw).ints (j := t0) (by omega)
  have hbW : b1 < Wt.heap.size := Nat.lt_of_lt_of_le hbw hI.be.size
  obtain ⟨g10, c10', e10⟩ := own_addr hO (by rw [List.length_append, upTo_len]; omega)
  injection e10 with e10 e10n e10c
  subst e10
  have co : Wt.cell? ⟨g10, 0, none⟩ = some (.int .i64 ((ps ++ upTo n).getD 0 0)) := by
    have e3 : Own KI w.heap.size Wt (.slice (some ⟨g10, 0, none⟩) n10 c10) (ps ++ upTo n) := hO
    exact (own_inti e3 (j := 0) (by rw [List.length_append, upTo_len]; omega)).1
  rw [e0] at co
  have hgl : g10 < Wt.heap.size := (hO.lt g10 rfl).2
  have HX := hide (Below.next hI.be hb1 (Nat.le_refl _))
  have HB1 := hide hb1
  have HCW := hide cw; have HCO := hide co; have HN10 := hide hl10
  have h10p : 0 < n10 := by omega
  have xn : (n != n) = false := by simp
  have xn2 : ((n : Int) != (n : Int)) = false := by simp
  clear hI hO hW hne hps hI1 hTs hm1 hP hin l1 cw co hb1 e10n e10c hl10 eT e0 eA
  go_upto_region 23 with (go_at_call 19; refine (unhide HMX).mono ?_; rintro e w5 ⟨g9, c9, G, rfl, hz5, hc5, hb5⟩; have HZ5 := hide hz5; have HC5 := hide hc5; have HB5 := hide (Below.next (unhide HB1) hb5 (Nat.le_refl _)); have HX5 := hide (Below.next (unhide HX) hb5 (Nat.le_refl _)); clear hz5 hc5 hb5)
  have k9 := new_block w5 (.cells #[.int .i64 0, .int .i64 0] 27)
  obtain ⟨f0, f1, ff0, ff1, fl⟩ := block2 k9
  have hb6 : Below w5.heap.size w5 (w5.alloc (.cells #[.int .i64 0, .int .i64 0] 27)) := (Below.refl _ _).alloc (Nat.le_refl _) _
  have HB6 := hide hb6
  obtain ⟨W6, eW6⟩ : ∃ X, w5.alloc (.cells #[.int .i64 0, .int .i64 0] 27) = X := ⟨_, rfl⟩
  rw [eW6] at HB6 f0 f1 ff0 ff1 fl ⊢
  clear k9 hb6 eW6
  have HX6 := hide (Below.next (unhide HX5) (unhide HB6) (Nat.le_refl _))
  have HBW := hide (Below.next (unhide HB5) (unhide HB6) (Nat.le_refl _))
  have HQ : Hid (∀ g k x, g < Wt.heap.size → Wt.cell? ⟨g, k, none⟩ = some x → W6.cell? ⟨g, k, none⟩ = some x) := fun g k x hg hx => by rw [World.cell?_of_block (w := Wt) (a := ⟨g, k, none⟩) ((unhide HBW).block g hg)]; exact hx
  have HQ5 : Hid (∀ g k x, g < w5.heap.size → w5.cell? ⟨g, k, none⟩ = some x → W6.cell? ⟨g, k, none⟩ = some x) := fun g k x hg hx => by rw [World.cell?_of_block (w := w5) (a := ⟨g, k, none⟩) ((unhide HB6).block g hg)]; exact hx
  go_upto_region 25 with fail
  clear f0 f1 ff0 ff1 fl
  go_wp2_with fail
  exact wins_loop w (some ⟨b1, o1, none⟩) n c1 (some ⟨g10, 0, none⟩) n10 c10 g9 c9 G t0 ht hn (ws.getD t0 0) b1 o1 g10 0 rfl rfl h10p W6 (unhide HX6) (unhide HQ _ _ _ hbW (unhide HCW)) (unhide HQ _ _ _ hgl (unhide HCO)) (unhide HQ5 _ _ _ (unhide HZ5).2 (unhide HZ5).1) (fun i hi => by
    obtain ⟨gi, ci, h1, h2, h3, h4⟩ := unhide HC5 i hi
    exact ⟨gi, ci, unhide HQ5 _ _ _ h3 h1, unhide HQ5 _ _ _ h4 h2⟩) _ _ _ (by assumption) (by kernel_rfl)

end Go.Proofs.YtpgokeogijpmaaaDoor.Mx
