/-
  sweep.marker: the rows that it goes through; its methods mark and finish.
  sweep.marker: its methods finish and whites.
-/
import Derived.Test.YtmkehjncnaokoaaK
namespace Go.Proofs.Ytmkehjncnaokoaa
open Go.RowKit

/-- The rows of a heap lie in none of a marker's blocks. -/
structure Rr (w : World) (b wb : Nat) (vl vO : Value) (os : List (List Int)) : Prop where
  ex : 0 < os.length → ∃ bo oo co, vO = .slice (some ⟨bo, oo, none⟩) os.length co ∧ (bo < w.heap.size ∧ bo ≠ b ∧ bo ≠ wb ∧ vl.ownBlock ≠ some bo) ∧ ∀ f, f < os.length → ∃ a c, w.cell? ⟨bo, oo + f, none⟩ = some (.slice a (os.getD f []).length c) ∧ IsL KI w (.slice a (os.getD f []).length c) (os.getD f []) ∧ (0 < (os.getD f []).length → ∀ k, (Value.slice a (os.getD f []).length c).ownBlock = some k → k < w.heap.size ∧ k ≠ b ∧ k ≠ wb ∧ vl.ownBlock ≠ some k)
theorem IsL.kept {w w' : World} {a : Option Addr} {m c : Nat} {xs : List Int} (h : IsL KI w (.slice a m c) xs) (hk : 0 < m → ∀ k, (Value.slice a m c).ownBlock = some k → w'.heap[k]? = w.heap[k]?) : IsL KI w' (.slice a m c) xs := by
  have hln := h.len
  by_cases h0 : 0 < m
  · obtain ⟨b, o, rfl, hb, hli⟩ := h.opens ki hln h0
    exact (hli.keep (hk h0 b rfl)).isl ki hln h.fits
  · have e : m = 0 := by omega
    subst e
    have e2 : xs = [] := List.eq_nil_of_length_eq_zero hln
    subst e2
    cases a with
    | none =>
      obtain ⟨b, off, c', hv, _⟩ | hv : (∃ b off c', (Value.slice none 0 c) = .slice (some ⟨b, off, none⟩) 0 c' ∧ True) ∨ c = 0 := by
        rcases h.1.2 with ⟨q, _⟩ | ⟨ad, cap, q, _⟩
        · cases q; exact Or.inr rfl
        · cases q
      · cases hv
      · subst hv; exact isl_nil w'
    | some ad => exact IsL.none_left rfl |> fun q => ⟨q.1, h.2⟩
theorem Rr.kp {w w' : World} {b wb : Nat} {vl vl' vO : Value} {os : List (List Int)} (h : Rr w b wb vl vO os) (hk : Kp w w' b wb vl vl') : Rr w' b wb vl' vO os := by
  have hv : ∀ k, k < w.heap.size → vl.ownBlock ≠ some k → vl'.ownBlock ≠ some k := fun k h1 h2 q => by
    rcases hk.new k q with q2 | q2
    · exact h2 q2
    · omega
  refine ⟨fun h0 => ?_⟩
  obtain ⟨bo, oo, co, e, ⟨h1, h2, h3, h4⟩, h5⟩ := h.ex h0
  refine ⟨bo, oo, co, e, ⟨Nat.lt_of_lt_of_le h1 hk.size, h2, h3, hv bo h1 h4⟩, fun f hf => ?_⟩
  obtain ⟨a, c, q1, q2, q3⟩ := h5 f hf
  refine ⟨a, c, cell_of q1 (hk.keep bo h1 h2 h3 h4), q2.kept (fun h6 k hk2 => ?_), fun h6 k hk2 => ?_⟩
  · obtain ⟨r1, r2, r3, r4⟩ := q3 h6 k hk2
    exact hk.keep k r1 r2 r3 r4
  · obtain ⟨r1, r2, r3, r4⟩ := q3 h6 k hk2
    exact ⟨Nat.lt_of_lt_of_le r1 hk.size, r2, r3, hv k r1 r4⟩
/-- Rows that lie below the marker's blocks. -/
theorem Rr.of {w0 w : World} {b wb lo : Nat} {vl : Value} {ao : Option Addr} {no co : Nat} {us : List Sl} {os : List (List Int)} (h : IsLL w0 (.slice ao no co) us os) (hb : Below w0.heap.size w0 w) (hlo : w0.heap.size ≤ lo) (h1 : lo ≤ b ∧ lo ≤ wb) (h2 : ∀ k, vl.ownBlock = some k → lo ≤ k) : Rr w b wb vl (.slice ao no co) os := by
  have hno : no = os.length := by rw [← h.len]; exact h.row.len.symm
  have ap : ∀ k, k < w0.heap.size → k < w.heap.size ∧ k ≠ b ∧ k ≠ wb ∧ vl.ownBlock ≠ some k := fun k hk => ⟨Nat.lt_of_lt_of_le hk hb.size, by omega, by omega, fun q => by have := h2 k q; omega⟩
  refine ⟨fun h0 => ?_⟩
  obtain ⟨bo, oo, rfl, hbo, hli⟩ := h.row.opens kl h.row.len (by omega)
  refine ⟨bo, oo, co, by rw [hno], ap bo hbo, fun f hf => ?_⟩
  obtain ⟨a, c, e, hrow⟩ := h.at hf
  have c0 := (hli.below hb hbo).sls (j := f) (by rw [h.len]; exact hf)
  rw [e] at c0
  refine ⟨a, c, c0, hrow.below hb, fun h6 k hk => ?_⟩
  obtain ⟨b', o', e', hb', _⟩ := hrow.opens ki rfl h6
  subst e'
  cases hk
  exact ap _ hb'

theorem OwnO.tail {lo : Nat} {w : World} {g off cap : Nat} {f : Nat} {r : List Nat} (h : OwnO lo w (.slice (some ⟨g, off, none⟩) (ixL (f :: r)).length cap) (ixL (f :: r))) (A : Option Addr) (hA : A = if cap = 1 then some ⟨g, off, none⟩ else some ⟨g, off + 1, none⟩) : OwnO lo w (.slice A (ixL r).length (cap - 1)) (ixL r) ∧ w.cell? ⟨g, off, none⟩ = some (.int .i64 (f : Int)) ∧ (ixL (f :: r)).length ≤ cap ∧ g < w.heap.size ∧ lo ≤ g := by
  rcases h with ⟨h1, _⟩ | ⟨g', off', cap', h1, h2, h3, h4, h5, h6⟩
  · cases h1
  · cases h1
    have hl : (ixL (f :: r)).length = (ixL r).length + 1 := by unfold ixL; simp
    have hg : ∀ j, (ixL (f :: r)).getD (j + 1) 0 = (ixL r).getD j 0 := fun j => by unfold ixL; simp [List.getD_eq_getElem?_getD]
    refine ⟨?_, ?_, h4, h3, h2⟩
    · by_cases e : cap = 1
      · rw [if_pos e] at hA
        subst hA
        subst e
        have hr : (ixL r).length = 0 := by omega
        refine Or.inr ⟨g, off, 0, rfl, h2, h3, by omega, fun j hj => by omega, fun j hj => absurd hj (Nat.not_lt_zero _)⟩
      · rw [if_neg e] at hA
        subst hA
        refine Or.inr ⟨g, off + 1, cap - 1, rfl, h2, h3, by omega, fun j hj => ?_, fun j hj => ?_⟩
        · have := h5 (j + 1) (by omega)
          rw [hg] at this
          rw [show off + 1 + j = off + (j + 1) by omega]
          exact this
        · have := h6 (j + 1) (by omega)
          rw [show off + 1 + j = off + (j + 1) by omega]
          exact this
    · have := h5 0 (by omega)
      rw [Nat.add_zero] at this
      rw [this]
      unfold ixL
      simp
theorem MkAt.cut {cw : Nat} {lo : Nat} {w : World} {b n : Nat} {vO vR : Value} {wb : Nat} {vl v' : Value} {wh : Nat → Bool} {f : Nat} {r : List Nat} (h : MkAt lo w b n cw vO vR wb vl ⟨wh, f :: r⟩) (hb : v'.ownBlock = vl.ownBlock) (ho : OwnO lo w v' (ixL r)) : MkAt lo (w.setCell ⟨b, 3, none⟩ v') b n cw vO vR wb v' ⟨wh, r⟩ := by
  refine ⟨set4_block h.blk, there_set h.wth _, by rw [size_set]; exact h.wlt, fun x hx => cell_other (h.whi x hx) (Or.inl h.ne) _, ho.keep (by rw [size_set]; exact Nat.le_refl _) (fun k hk => Below.heap_setCell _ _ _ _ (fun e => ?_)), h.ne, h.lob, fun k hk => h.vlb k (by rw [← hb]; exact hk), h.wle⟩
  rw [hb] at hk
  exact (h.vlb k hk).1 e
theorem kp_cut {w : World} {b wb : Nat} {vl v' : Value} (hb : v'.ownBlock = vl.ownBlock) : Kp w (w.setCell ⟨b, 3, none⟩ v') b wb vl v' :=
  ⟨by rw [size_set]; exact Nat.le_refl _, fun k _ h1 _ _ => Below.heap_setCell _ _ _ _ h1, fun k hk => Or.inl (by rw [← hb]; exact hk)⟩

set_option maxRecDepth 100000 in
set_option maxHeartbeats 4000000 in
theorem mark_none {cw : Nat} (w : World) (lo b n : Nat) (vO vR : Value) (wb : Nat) (vl : Value) (wh : Nat → Bool) (h : MkAt lo w b n cw vO vR wb vl ⟨wh, []⟩) :
    Calls Try.prog 38 #[.pointer (some ⟨b, 0, none⟩)] w fun e w' => e = .returned (.tuple #[]) ∧ w' = w := by
  obtain ⟨⟨m0, m1, m2, m3⟩, ⟨mf0, mf1, mf2, mf3⟩, ml⟩ := block4 h.blk
  obtain ⟨a, c, e⟩ := h.lin.form
  subst e
  have e0 : (ixL []).length = 0 := rfl
  change w.cell? ⟨b, 3, none⟩ = some (.slice a 0 c) at m3
  clear h
  go_enter Try.func38, Try.ntmps38
  go_wp2_with fail
  exact bodyPost_ret (v := .tuple #[]) (by simp [results, Try.results38]) rfl ⟨rfl, rfl⟩

set_option maxRecDepth 100000 in
set_option maxHeartbeats 4000000 in
theorem mark_first {cw : Nat} (w : World) (lo b n : Nat) (vO vR : Value) (wb : Nat) (vl : Value) (wh : Nat → Bool) (f : Nat) (r : List Nat) (h : MkAt lo w b n cw vO vR wb vl ⟨wh, f :: r⟩) (os : List (List Int)) (hn : os.length = n) (hr : Rr w b wb vl vO os) (hf : f < n) (hso : ∀ o ∈ os.getD f [], -1 ≤ o ∧ o < (n : Int)) (hns : (os.getD f []).length ≤ 20) (hrl : r.length ≤ 800000) :
    Calls Try.prog 38 #[.pointer (some ⟨b, 0, none⟩)] w fun e w' => e = .returned (.tuple #[]) ∧ ∃ vl', MkAt lo w' b n cw vO vR wb vl' (shadeL ⟨wh, r⟩ (os.getD f [])) ∧ Kp w w' b wb vl vl' ∧ Below lo w w' := by
  obtain ⟨⟨m0, m1, m2, m3⟩, ⟨mf0, mf1, mf2, mf3⟩, ml⟩ := block4 h.blk
  obtain ⟨g, off, cap, evl⟩ : ∃ g off cap, vl = .slice (some ⟨g, off, none⟩) (ixL (f :: r)).length cap := by
    rcases h.lin with ⟨_, q⟩ | ⟨g, off, cap, q, _⟩
    · cases q
    · exact ⟨g, off, cap, q⟩
  subst evl
  obtain ⟨bo, oo, co, evO, ⟨hb1, hb2, hb3, hb4⟩, hrow⟩ := hr.ex (by omega)
  obtain ⟨ra, rc, c5, hisl, hap⟩ := hrow f (by omega)
  rw [hn] at evO
  have hcell : w.cell? ⟨g, off, none⟩ = some (.int .i64 (f : Int)) := (h.lin.tail _ rfl).2.1
  have hcapl := (h.lin.tail _ rfl).2.2.1
  have hl1 : (ixL (f :: r)).length = r.length + 1 := by rw [ixL_len]; rfl
  obtain ⟨A, hA⟩ : ∃ A : Option Addr, A = if cap = 1 then some ⟨g, off, none⟩ else some ⟨g, off + 1, none⟩ := ⟨_, rfl⟩
  have hot := (h.lin.tail A hA).1
  have hblk : (Value.slice A (ixL r).length (cap - 1)).ownBlock = (Value.slice (some ⟨g, off, none⟩) (ixL (f :: r)).length cap).ownBlock := by
    rw [hA]; split <;> rfl
  have HM2 := hide (h.cut hblk hot)
  have hk2 := kp_cut (w := w) (b := b) (wb := wb) hblk
  have HK2 := hide hk2
  have HB2 : Hid (Below lo w (w.setCell ⟨b, 3, none⟩ (.slice A (ixL r).length (cap - 1)))) := (Below.refl _ _).setCell (p := ⟨b, 3, none⟩) h.lob.1 _
  have c6 := cell_other (b := b) (o := 3) c5 (Or.inl hb2) (.slice A (ixL r).length (cap - 1))
  have hisl2 : IsL KI (w.setCell ⟨b, 3, none⟩ (.slice A (ixL r).length (cap - 1))) (.slice ra (os.getD f []).length rc) (os.getD f []) := hisl.kept (fun h6 k hk => hk2.keep k (hap h6 k hk).1 (hap h6 k hk).2.1 (hap h6 k hk).2.2.1 (hap h6 k hk).2.2.2)
  have HSH := hide (shade_any lo _ b n vO vR wb _ ⟨wh, r⟩ (unhide HM2) ra (os.getD f []).length rc (os.getD f []) hisl2 (fun h6 k hk => ⟨(hap h6 k hk).2.1, (hap h6 k hk).2.2.1, by rw [hblk]; exact (hap h6 k hk).2.2.2⟩) hso (by show r.length + _ ≤ _; omega))
  have i0 : (0 : Int) ≤ (f : Int) := by omega
  have i1 : (f : Int) < (n : Int) := by omega
  obtain ⟨L, eL⟩ : ∃ X, (ixL r).length = X := ⟨_, rfl⟩
  have eL1 : (ixL (f :: r)).length = L + 1 := by rw [← eL, ixL_len, ixL_len]; rfl
  rw [eL1] at m3 hcapl
  rw [eL] at HM2 HK2 HB2 HSH c6
  subst evO
  obtain ⟨M, eM⟩ : ∃ X, (os.getD f []).length = X := ⟨_, rfl⟩
  rw [eM] at c6 HSH
  rw [eL1] at HK2
  have l0 : (0 : Int) < ((L + 1 : Nat) : Int) := by omega
  have lnz : (((L + 1 : Nat) : Int) == 0) = false := by simp; omega
  have lc : (1 : Int) ≤ ((L + 1 : Nat) : Int) := by omega
  have HEL1 := hide eL1
  clear h hr hrow hisl hisl2 hap hot hblk hk2 hso hns hrl hn eL eL1 eM hl1 c5 hb1 hb2 hb3 hb4
  by_cases hc : cap = 1
  · subst hc
    rw [if_pos rfl] at hA
    subst hA
    simp only [Nat.sub_self] at HM2 HK2 HB2 HSH c6
    have eL0 : L = 0 := by omega
    subst eL0
    go_enter Try.func38, Try.ntmps38
    go_upto_region 3 with fail
    have HM2b := unhide HM2
    obtain ⟨⟨u0, u1, u2, u3⟩, ⟨uf0, uf1, uf2, uf3⟩, ul⟩ := block4 HM2b.blk
    obtain ⟨W2, e2⟩ : ∃ X, w.setCell ⟨b, 3, none⟩ (.slice (some ⟨g, off, none⟩) 0 0) = X := ⟨_, rfl⟩
    rw [e2] at HB2 HK2 HSH c6 u0 u1 u2 u3 uf0 uf1 uf2 uf3 ul
    rw [e2]
    clear e2 HM2b HM2 m0 m1 m2 m3 mf0 mf1 mf2 mf3 ml hcell
    go_wp2_with (go_at_call 37; (with_reducible refine Calls.mono (unhide HSH) ?_); rintro e w5 ⟨rfl, vl', hm5, hk5, hb5⟩; have HM5 := hide hm5; have HK5 := hide hk5; have HB5 := hide hb5; clear hm5 hk5 hb5)
    exact bodyPost_end (v := .tuple #[]) (by simp [results, Try.results38]) rfl ⟨rfl, vl', unhide HM5, (by rw [unhide HEL1]; exact (unhide HK2).trans (unhide HK5)), (unhide HB2).trans (unhide HB5)⟩
  · rw [if_neg hc] at hA
    subst hA
    go_enter Try.func38, Try.ntmps38
    go_upto_region 3 with fail
    have HM2b := unhide HM2
    obtain ⟨⟨u0, u1, u2, u3⟩, ⟨uf0, uf1, uf2, uf3⟩, ul⟩ := block4 HM2b.blk
    obtain ⟨W2, e2⟩ : ∃ X, w.setCell ⟨b, 3, none⟩ (.slice (some ⟨g, off + 1, none⟩) L (cap - 1)) = X := ⟨_, rfl⟩
    rw [e2] at HB2 HK2 HSH c6 u0 u1 u2 u3 uf0 uf1 uf2 uf3 ul
    rw [e2]
    clear e2 HM2b HM2 m0 m1 m2 m3 mf0 mf1 mf2 mf3 ml hcell
    go_wp2_with (go_at_call 37; (with_reducible refine Calls.mono (unhide HSH) ?_); rintro e w5 ⟨rfl, vl', hm5, hk5, hb5⟩; have HM5 := hide hm5; have HK5 := hide hk5; have HB5 := hide hb5; clear hm5 hk5 hb5)
    exact bodyPost_end (v := .tuple #[]) (by simp [results, Try.results38]) rfl ⟨rfl, vl', unhide HM5, (by rw [unhide HEL1]; exact (unhide HK2).trans (unhide HK5)), (unhide HB2).trans (unhide HB5)⟩


/-- A marker marks as long as there is something grey. -/
inductive Stp (os : List (List Int)) (s : Mk) : Mk → Prop
  | refl : Stp os s s
  | step {s' : Mk} : Stp os s s' → s'.ln ≠ [] → Stp os s (markM os s')
theorem Stp.inv {os : List (List Int)} {rs : List Int} (hg : GoodH os rs) {s s' : Mk} (h : Stp os s s') (hi : Inv os rs s) : Inv os rs s' := by
  induction h with
  | refl => exact hi
  | step _ _ ih => exact inv_mark hg ih
/-- What is whose in rows. -/
structure GoodR (os : List (List Int)) (n : Nat) : Prop where
  no : os.length = n
  n500 : n ≤ 500
  ns : ∀ i, i < n → (os.getD i []).length ≤ 20
  so : ∀ i, i < n → ∀ o ∈ os.getD i [], -1 ≤ o ∧ o < (n : Int)
theorem GoodH.rows {os : List (List Int)} {rs : List Int} (h : GoodH os rs) : GoodR os os.length := ⟨rfl, h.no, h.ns, h.so⟩
structure LnOk (n : Nat) (s : Mk) : Prop where
  lt : ∀ x ∈ s.ln, x < n
  cnt : cntW n s + s.ln.length ≤ 2000
theorem LnOk.shade {n : Nat} {s : Mk} (h : LnOk n s) {objs : List Int} (ho : ∀ o ∈ objs, -1 ≤ o ∧ o < (n : Int)) : LnOk n (shadeL s objs) := by
  refine ⟨fun x hx => ?_, by rw [shadeL_cnt objs s ho]; exact h.cnt⟩
  rcases (shadeL_ln objs s (fun o h => (ho o h).1) x).1 hx with q | ⟨_, q⟩
  · exact h.lt x q
  · have := (ho _ q).2; omega
def muW (b wb n : Nat) (w : World) : Nat := ((List.range n).filter fun x => match w.cell? ⟨wb, x, none⟩ with | some (.bool B) => B | _ => false).length + (match w.cell? ⟨b, 3, none⟩ with | some (.slice _ L _) => L | _ => 0)
theorem MkAt.mu {cw : Nat} {lo : Nat} {w : World} {b n : Nat} {vO vR : Value} {wb : Nat} {vl : Value} {s : Mk} (h : MkAt lo w b n cw vO vR wb vl s) : muW b wb n w = cntW n s + s.ln.length := by
  obtain ⟨⟨_, _, _, m3⟩, _, _⟩ := block4 h.blk
  obtain ⟨a, c, e⟩ := h.lin.form
  unfold muW cntW
  rw [m3, e]
  dsimp only
  rw [ixL_len]
  congr 2
  apply List.filter_congr
  intro x hx
  rw [h.whi x (List.mem_range.1 hx)]

set_option maxRecDepth 100000 in
set_option maxHeartbeats 4000000 in
theorem finish_any {cw : Nat} (w : World) (lo b n : Nat) (vO vR : Value) (wb : Nat) (vl : Value) (s : Mk) (h : MkAt lo w b n cw vO vR wb vl s) (os : List (List Int)) (hg : GoodR os n) (hr : Rr w b wb vl vO os) (hk : LnOk n s) :
    Calls Try.prog 26 #[.pointer (some ⟨b, 0, none⟩)] w fun e w' => e = .returned (.tuple #[]) ∧ ∃ vl' s', MkAt lo w' b n cw vO vR wb vl' s' ∧ Stp os s s' ∧ s'.ln = [] ∧ LnOk n s' ∧ Kp w w' b wb vl vl' ∧ Below lo w w' := by
  have HM := hide h; have HG := hide hg; have HR := hide hr; have HK := hide hk
  have HP := hide (Kp.refl w b wb vl)
  have HB : Hid (Below lo w w) := Below.refl _ _
  have HS : Hid (Stp os s s) := .refl
  clear h hg hr hk
  go_enter Try.func26, Try.ntmps26
  go_wp2_with fail
  go_loopw [] (fun wr => ∃ (v : Value) (s' : Mk), Hid (MkAt lo wr b n cw vO vR wb v s') ∧ Hid (Stp os s s') ∧ Hid (LnOk n s') ∧ Hid (Rr wr b wb v vO os) ∧ Hid (Kp w wr b wb vl v) ∧ Hid (Below lo w wr)) (fun wr => muW b wb n wr)
  case atStart => exact ⟨vl, s, HM, HS, HK, HR, HP, HB⟩
  case round =>
    clear HM HS HK HR HP HB
    obtain ⟨v, ⟨wh, ln⟩, HM, HS, HK, HR, HP, HB⟩ := hrel
    obtain ⟨⟨m0, m1, m2, m3⟩, ⟨mf0, mf1, mf2, mf3⟩, ml⟩ := block4 (unhide HM).blk
    obtain ⟨a, c, e⟩ := (unhide HM).lin.form
    cases ln with
    | nil =>
      have e0 : v = .slice a 0 c := e
      subst e0
      have p0 : ¬ (0 : Int) < ((0 : Nat) : Int) := by omega
      go_wp2_with fail
      exact bodyPost_end (v := .tuple #[]) (by simp [results, Try.results26]) rfl ⟨rfl, _, _, unhide HM, unhide HS, rfl, unhide HK, unhide HP, unhide HB⟩
    | cons f r =>
      have e0 : v = .slice a (r.length + 1) c := by rw [e, ixL_len]; rfl
      subst e0
      have p0 : (0 : Int) < ((r.length + 1 : Nat) : Int) := by omega
      have hf := (unhide HK).lt f (List.mem_cons_self ..)
      have hck := (unhide HK).cnt
      have hln : (f :: r).length = r.length + 1 := rfl
      have HMK := hide (mark_first wr lo b n vO vR wb _ wh f r (unhide HM) os (unhide HG).no (unhide HR) hf ((unhide HG).so f hf) ((unhide HG).ns f hf) (by simp only [hln] at hck; omega))
      have HS2 : Hid (Stp os s (shadeL ⟨wh, r⟩ (os.getD f []))) := Stp.step (s' := ⟨wh, f :: r⟩) (unhide HS) (fun q => by cases q)
      have hk1 : LnOk n ⟨wh, r⟩ := ⟨fun x hx => (unhide HK).lt x (List.mem_cons_of_mem _ hx), by have : cntW n ⟨wh, f :: r⟩ = cntW n ⟨wh, r⟩ := rfl; simp only [hln] at hck; show cntW n ⟨wh, r⟩ + r.length ≤ 2000; omega⟩
      have HK2 := hide (hk1.shade ((unhide HG).so f hf))
      have hmu : cntW n (shadeL ⟨wh, r⟩ (os.getD f [])) + (shadeL ⟨wh, r⟩ (os.getD f [])).ln.length = cntW n ⟨wh, r⟩ + r.length := shadeL_cnt _ _ ((unhide HG).so f hf)
      have HMU := hide hmu
      clear hk1 hmu hck hln hf e
      go_wp2_with (go_at_call 38; (with_reducible refine Calls.mono (unhide HMK) ?_); rintro e w5 ⟨rfl, vl', hm5, hk5, hb5⟩; have HM5 := hide hm5; have HP5 := hide ((unhide HP).trans hk5); have HR5 := hide ((unhide HR).kp hk5); have HB5 := hide ((unhide HB).trans hb5); clear hm5 hk5 hb5)
      go_roundw
      case rel => exact ⟨vl', _, HM5, HS2, HK2, HR5, HP5, HB5⟩
      case measure =>
        rw [(unhide HM5).mu, (unhide HM).mu, unhide HMU]
        have : cntW n ⟨wh, f :: r⟩ = cntW n ⟨wh, r⟩ := rfl
        rw [this]
        show _ < _ + (r.length + 1)
        omega

set_option maxRecDepth 100000 in
set_option maxHeartbeats 4000000 in
theorem whites_any {cw : Nat} (w : World) (lo b n : Nat) (vO vR : Value) (wb : Nat) (vl : Value) (s : Mk) (h : MkAt lo w b n cw vO vR wb vl s) (hn : n ≤ 100000) :
    Calls Try.prog 27 #[.pointer (some ⟨b, 0, none⟩)] w fun e w' => ∃ a c, e = .returned (.slice a ((List.range n).filter s.wh).length c) ∧ OwnO w.heap.size w' (.slice a ((List.range n).filter s.wh).length c) (ixL ((List.range n).filter s.wh)) ∧ Below w.heap.size w w' := by
  obtain ⟨⟨m0, m1, m2, m3⟩, ⟨mf0, mf1, mf2, mf3⟩, ml⟩ := block4 h.blk
  have HM := hide h
  have HX := hide (Below.refl w.heap.size w)
  have HO0 : Hid (OwnO w.heap.size w (.slice none 0 0) (ixL ((List.range 0).filter s.wh))) := OwnO.nil _ _
  clear h
  go_enter Try.func27, Try.ntmps27
  go_wp2_with fail
  clear m0 m1 m2 m3 mf0 mf1 mf2 mf3 ml
  go_loopw [3, 11] (fun s3 s11 wr => ∃ (i : Nat) (a : Option Addr) (r c : Nat), i ≤ n ∧ s11 = .int .i64 (i : Int) ∧ s3 = .slice a r c ∧ r ≤ i ∧ Hid (((List.range i).filter s.wh).length = r) ∧ Hid (OwnO w.heap.size wr (.slice a r c) (ixL ((List.range i).filter s.wh))) ∧ Hid (Below w.heap.size w wr)) (fun _ s11 _ => n - (intOf s11).toNat)
  case atStart => exact ⟨0, none, 0, 0, Nat.zero_le _, rfl, rfl, Nat.le_refl _, hide rfl, HO0, HX⟩
  case round =>
    obtain ⟨i, a, r, c, hi, rfl, rfl, hr, HRL, HO, HB⟩ := hrel
    clear HX HO0
    by_cases hlt : i < n
    · have i0 : (0 : Int) ≤ (i : Int) := by omega
      have i1 : (i : Int) < (n : Int) := by omega
      have hw1 : IntKind.i64.wrap ((i : Int) + 1) = (i : Int) + 1 := wrapi (by omega) (by omega)
      have q0 := cell_of ((unhide HM).whi i hlt) ((unhide HB).block wb (unhide HM).wlt)
      obtain ⟨B, eB⟩ : ∃ X, s.wh i = X := ⟨_, rfl⟩
      rw [eB] at q0
      cases B
      · have HF : Hid ((List.range (i + 1)).filter s.wh = (List.range i).filter s.wh) := by
          show _ = _
          rw [List.range_succ, List.filter_append, List.filter_cons, List.filter_nil, eB, if_neg Bool.false_ne_true, List.append_nil]
        clear eB
        go_wp2_with fail
        go_roundw
        case rel => exact ⟨i + 1, a, r, c, by omega, by go_num, rfl, by omega, by rw [unhide HF]; exact HRL, by rw [unhide HF]; exact HO, HB⟩
        case measure => simp [intOf]; omega
      · have HF : Hid ((List.range (i + 1)).filter s.wh = (List.range i).filter s.wh ++ [i]) := by
          show _ = _
          rw [List.range_succ, List.filter_append, List.filter_cons, List.filter_nil, eB, if_pos rfl]
        have hb3 : Below wr.heap.size wr (wr.alloc (.cells #[.int .i64 (i : Int)] 3)) := (Below.refl _ _).alloc (Nat.le_refl _) _
        have HNB := hide (block1 (new_block wr (.cells #[.int .i64 (i : Int)] 3))).1
        have HOP := hide ((unhide HO).keep hb3.size (fun k hk => hb3.block k ((unhide HO).lt k hk).2))
        have HBP := hide ((unhide HB).alloc (unhide HB).size (.cells #[.int .i64 (i : Int)] 3))
        clear eB hb3
        go_wp2_with (at_builtin; refine wpList_append_o rfl (.tmp 17) (.tmp 19) rfl w.heap.size _ (ixL ((List.range i).filter s.wh)) rfl (unhide HOP) _ (i : Int) rfl (unhide HNB) r (by rw [ixL_len]; exact unhide HRL) (by omega) (unhide HBP).size ?_; intro a7 c7 w7 ho7 hg7; have HO7 := hide ho7; have HB7 := hide ((unhide HBP).trans hg7.below); clear ho7 hg7)
        go_roundw
        case rel => exact ⟨i + 1, a7, r + 1, c7, by omega, by go_num, rfl, by omega, hide (by rw [unhide HF, List.length_append, unhide HRL]; rfl), hide (by rw [unhide HF, ixL_add]; exact unhide HO7), HB7⟩
        case measure => simp [intOf]; omega
    · obtain rfl : i = n := by omega
      have i1 : ¬ (i : Int) < (i : Int) := by omega
      go_wp2_with fail
      go_ret
      rw [unhide HRL]
      exact ⟨a, c, rfl, unhide HO, unhide HB⟩
end Go.Proofs.Ytmkehjncnaokoaa
