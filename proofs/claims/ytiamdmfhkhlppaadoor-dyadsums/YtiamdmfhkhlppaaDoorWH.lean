import Derived.Test.YtiamdmfhkhlppaaDoorWG
namespace Go.Proofs.YtiamdmfhkhlppaaDoor
open Go.RowKit Go.Wd Go.Box
set_option linter.unusedVariables false
set_option maxRecDepth 3000
abbrev DO (n : Bool) (a : Option Addr) (k c : Nat) (ex : Int) : Obj := .cells #[.bool n, .slice a k c, .int .i64 ex] 36 (0, 0)
theorem Bx.dcell {w W : World} {L : List (Nat × Obj)} (h : Bx w L W) {g : Nat} {a b c : Value} (hm : (g, Obj.cells #[a, b, c] 36 (0, 0)) ∈ L) : DCell W g #[a, b, c] := ⟨h.box _ hm, rfl⟩
set_option maxHeartbeats 2000000 in
theorem wValueR (b : Bool) (x : Int) (h : Ok b x) (hf : sz b x < inf b) (w : World) (hT : Tab w) :
    Calls Tryd.prog 56 #[.int .u8 (fm b), .int .u64 x] w fun e w' => DRes w w' (sv (ng b x) (un b x)) (ue b x) e := by
  have B1 := (Bx.nil w).push (DO false none 0 0 0)
  have hu := un_bd b x
  have hx := ue_bd b x
  go_enter Tryd.func56, Tryd.ntmps56
  go_wp2_with fail
  refine (wFinite b x h hf _).mono ?_
  rintro e w2 ⟨rfl, h2⟩
  have HF := (B1.keep h2).push (SO b)
  have hlt : w.heap.size < w2.heap.size := (B1.keep h2).lt (.head _)
  clear h2 B1 hf
  go_wp2_with fail
  generalize hw3 : w2.alloc (SO b) = w3 at *
  clear hw3
  replace HF := HF.drew
  have HI := HF.sub (L' := [(w2.heap.size, SO b)]) (by simp)
  have sh := fun W (hW : Bx w [(w2.heap.size, SO b)] W) => shape_cells hW w2.heap.size b (.head _)
  refine Drawn.enter (Bx w [(w2.heap.size, SO b)]) (by kernel_rfl) ?_
  refine Drawn.take (i := 0) (v := ?v102) rfl (by kernel_rfl) (by kernel_rfl) (by kernel_rfl) (fun _ _ _ h => h) (by kernel_rfl) (fun W hW => ?_) HI ?_
  rotate_left
  · have ⟨e0, e1, e2, e3⟩ := sh W hW
    go_simp <;> exact rfl
  refine Drawn.take (i := 1) (v := ?v103) rfl (by kernel_rfl) (by kernel_rfl) (by kernel_rfl) (fun _ _ _ h => h) (by kernel_rfl) (fun W hW => ?_) HI ?_
  rotate_left
  · have ⟨e0, e1, e2, e3⟩ := sh W hW
    go_simp <;> exact rfl
  refine Drawn.take (i := 3) (v := ?v104) rfl (by kernel_rfl) (by kernel_rfl) (by kernel_rfl) (fun _ _ _ h => h) (by kernel_rfl) (fun W hW => ?_) HI ?_
  rotate_left
  · have ⟨e0, e1, e2, e3⟩ := sh W hW
    go_simp <;> exact rfl
  refine Drawn.take (i := 4) (v := ?v105) rfl (by kernel_rfl) (by kernel_rfl) (by kernel_rfl) (fun _ _ _ h => h) (by kernel_rfl) (fun W hW => ?_) HI ?_
  rotate_left
  · have ⟨e0, e1, e2, e3⟩ := sh W hW
    go_simp <;> exact rfl
  refine Drawn.take (i := 7) (v := ?v106) rfl (by kernel_rfl) (by kernel_rfl) (by kernel_rfl) (fun _ _ _ h => h) (by kernel_rfl) (fun W hW => ?_) HI ?_
  rotate_left
  · have ⟨e0, e1, e2, e3⟩ := sh W hW
    go_simp <;> exact rfl
  refine Drawn.take (i := 8) (v := ?v107) rfl (by kernel_rfl) (by kernel_rfl) (by kernel_rfl) (fun _ _ _ h => h) (by kernel_rfl) (fun W hW => ?_) HI ?_
  rotate_left
  · have ⟨e0, e1, e2, e3⟩ := sh W hW
    go_simp <;> exact rfl
  refine Drawn.one (j := 2) (by kernel_rfl) rfl (fun K hK => ?_)
  go_simp
  refine (wIsNeg b x h _).mono ?_
  rintro e wn ⟨rfl, hn⟩
  refine hK _ _ (HI.keep hn) ?_
  clear hK K
  replace HI := HI.keep hn
  replace HF := HF.keep hn
  clear hn
  refine Drawn.one (j := 5) (by kernel_rfl) rfl (fun K hK => ?_)
  go_simp
  refine (wUnits b x h _).mono ?_
  rintro e wn ⟨rfl, hn⟩
  refine hK _ _ (HI.keep hn) ?_
  clear hK K
  replace HI := HI.keep hn
  replace HF := HF.keep hn
  clear hn
  refine Drawn.one (j := 6) (by kernel_rfl) rfl (fun K hK => ?_)
  go_simp
  refine (of16 (un b x) hu.1 (by omega) _).mono ?_
  rintro e wn ⟨zs, a, c, rfl, hN, _⟩
  refine hK _ _ (HI.keep hN.bel) ?_
  clear hK K
  replace HI := HI.keep hN.bel
  replace HF := HF.keep hN.bel
  have hl := hN.lie
  have G := Hide.mk hN.good
  clear hN
  refine Drawn.one (j := 9) (by kernel_rfl) rfl (fun K hK => ?_)
  go_simp
  refine (wUnitExp b x h _).mono ?_
  rintro e wm ⟨rfl, hn⟩
  refine hK _ _ (HI.keep hn) ?_
  clear hK K
  replace HI := HI.keep hn
  replace HF := HF.keep hn
  replace hl := hl.below hn (Nat.le_refl _)
  clear hn
  have g := G.out
  refine Drawn.one (j := 10) (by kernel_rfl) rfl (fun K hK => ?_)
  go_simp
  refine (dmake38 (ng b x) a c zs (ue b x) _ ⟨hl, by have := g.len; unfold maxLen; omega, g.can.1⟩ g.may (hT.below HI.bel (Nat.le_refl _)) (by omega) (by omega)).mono ?_
  rintro e wd ⟨n9, a9, k9, c9, x9, code, rfl, hv⟩
  rw [g.val] at hv
  refine hK _ _ (HI.keep hv.bel) ?_
  clear hK K
  have HV := Hide.mk hv
  have HB := Hide.mk HI.bel
  have hsz : w.heap.size < wm.heap.size := HF.lt (.tail _ (.head _))
  replace HI := HI.keep hv.bel
  replace HF := HF.keep hv.bel
  clear hv g G hl
  refine Drawn.take (i := 11) (v := ?v108) rfl (by kernel_rfl) (by kernel_rfl) (by kernel_rfl) (fun _ _ _ h => h) (by kernel_rfl) (fun W hW => ?_) HI ?_
  rotate_left
  · have ⟨e0, e1, e2, e3⟩ := sh W hW
    go_simp <;> exact rfl
  refine Drawn.take (i := 12) (v := ?v109) rfl (by kernel_rfl) (by kernel_rfl) (by kernel_rfl) (fun _ _ _ h => h) (by kernel_rfl) (fun W hW => ?_) HI ?_
  rotate_left
  · have ⟨e0, e1, e2, e3⟩ := sh W hW
    go_simp <;> exact rfl
  obtain ⟨⟨f0, f1, f2⟩, r0, r1, r2⟩ := cells3 HF w.heap.size _ _ _ _ (.tail _ (.head _))
  have HF2 := (HF.sub (L' := [(w.heap.size, DO false none 0 0 0), (w2.heap.size, SO b)]) (by simp)).fill3 (Nat.le_refl _) (by simp; omega) (.bool n9) (.slice a9 k9 c9) (.int .i64 x9)
  refine Drawn.one (j := 13) (by kernel_rfl) rfl (fun K hK => ?_)
  go_simp
  replace HI := HF2.sub (L' := [(w2.heap.size, SO b)]) (by simp)
  refine hK _ _ HI ?_
  clear hK K f0 f1 f2 r0 r1 r2
  refine Drawn.take (i := 14) (v := ?v110) rfl (by kernel_rfl) (by kernel_rfl) (by kernel_rfl) (fun _ _ _ h => h) (by kernel_rfl) (fun W hW => ?_) HI ?_
  rotate_left
  · have ⟨e0, e1, e2, e3⟩ := sh W hW
    go_simp <;> exact rfl
  refine Drawn.done (by kernel_rfl) ?_
  try go_simp
  go_wp2
  refine bodyPost_ret (results_D2 rfl _ _ w.heap.size _ rfl ⟨HF2.head, rfl⟩) rfl ?_
  exact DRes.back HV.out HB.out (Nat.le_refl _) hsz _ _ _
set_option maxHeartbeats 2000000 in
theorem wUnitR (b : Bool) (x : Int) (h : Ok b x) (hf : sz b x < inf b) (w : World) (hT : Tab w) :
    Calls Tryd.prog 60 #[.int .u8 (fm b), .int .u64 x] w fun e w' => DRes w w' (sv false 1) (ue b x) e := by
  have B1 := (Bx.nil w).push (DO false none 0 0 0)
  have hx := ue_bd b x
  go_enter Tryd.func60, Tryd.ntmps60
  go_wp2_with fail
  refine (wFinite b x h hf _).mono ?_
  rintro e w2 ⟨rfl, h2⟩
  have HF := (B1.keep h2).push (SO b)
  have hlt : w.heap.size < w2.heap.size := (B1.keep h2).lt (.head _)
  clear h2 B1 hf
  go_wp2_with fail
  generalize hw3 : w2.alloc (SO b) = w3 at *
  clear hw3
  replace HF := HF.drew
  have HI := HF.sub (L' := [(w2.heap.size, SO b)]) (by simp)
  have sh := fun W (hW : Bx w [(w2.heap.size, SO b)] W) => shape_cells hW w2.heap.size b (.head _)
  refine Drawn.enter (Bx w [(w2.heap.size, SO b)]) (by kernel_rfl) ?_
  refine Drawn.take (i := 1) (v := ?v111) rfl (by kernel_rfl) (by kernel_rfl) (by kernel_rfl) (fun _ _ _ h => h) (by kernel_rfl) (fun W hW => ?_) HI ?_
  rotate_left
  · have ⟨e0, e1, e2, e3⟩ := sh W hW
    go_simp <;> exact rfl
  refine Drawn.take (i := 2) (v := ?v112) rfl (by kernel_rfl) (by kernel_rfl) (by kernel_rfl) (fun _ _ _ h => h) (by kernel_rfl) (fun W hW => ?_) HI ?_
  rotate_left
  · have ⟨e0, e1, e2, e3⟩ := sh W hW
    go_simp <;> exact rfl
  refine Drawn.one (j := 0) (by kernel_rfl) rfl (fun K hK => ?_)
  go_simp
  refine (of16 1 (by decide) (by decide) _).mono ?_
  rintro e wn ⟨zs, a, c, rfl, hN, _⟩
  refine hK _ _ (HI.keep hN.bel) ?_
  clear hK K
  replace HI := HI.keep hN.bel
  replace HF := HF.keep hN.bel
  have hl := hN.lie
  have G := Hide.mk hN.good
  clear hN
  refine Drawn.one (j := 3) (by kernel_rfl) rfl (fun K hK => ?_)
  go_simp
  refine (wUnitExp b x h _).mono ?_
  rintro e wm ⟨rfl, hn⟩
  refine hK _ _ (HI.keep hn) ?_
  clear hK K
  replace HI := HI.keep hn
  replace HF := HF.keep hn
  replace hl := hl.below hn (Nat.le_refl _)
  clear hn
  have g := G.out
  refine Drawn.one (j := 4) (by kernel_rfl) rfl (fun K hK => ?_)
  go_simp
  refine (dmake38 false a c zs (ue b x) _ ⟨hl, by have := g.len; unfold maxLen; omega, g.can.1⟩ g.may (hT.below HI.bel (Nat.le_refl _)) (by omega) (by omega)).mono ?_
  rintro e wd ⟨n9, a9, k9, c9, x9, code, rfl, hv⟩
  rw [g.val] at hv
  refine hK _ _ (HI.keep hv.bel) ?_
  clear hK K
  have HV := Hide.mk hv
  have HB := Hide.mk HI.bel
  have hsz : w.heap.size < wm.heap.size := HF.lt (.tail _ (.head _))
  replace HI := HI.keep hv.bel
  replace HF := HF.keep hv.bel
  clear hv g G hl
  refine Drawn.take (i := 5) (v := ?v113) rfl (by kernel_rfl) (by kernel_rfl) (by kernel_rfl) (fun _ _ _ h => h) (by kernel_rfl) (fun W hW => ?_) HI ?_
  rotate_left
  · have ⟨e0, e1, e2, e3⟩ := sh W hW
    go_simp <;> exact rfl
  refine Drawn.take (i := 6) (v := ?v114) rfl (by kernel_rfl) (by kernel_rfl) (by kernel_rfl) (fun _ _ _ h => h) (by kernel_rfl) (fun W hW => ?_) HI ?_
  rotate_left
  · have ⟨e0, e1, e2, e3⟩ := sh W hW
    go_simp <;> exact rfl
  obtain ⟨⟨f0, f1, f2⟩, r0, r1, r2⟩ := cells3 HF w.heap.size _ _ _ _ (.tail _ (.head _))
  have HF2 := (HF.sub (L' := [(w.heap.size, DO false none 0 0 0), (w2.heap.size, SO b)]) (by simp)).fill3 (Nat.le_refl _) (by simp; omega) (.bool n9) (.slice a9 k9 c9) (.int .i64 x9)
  refine Drawn.one (j := 7) (by kernel_rfl) rfl (fun K hK => ?_)
  go_simp
  replace HI := HF2.sub (L' := [(w2.heap.size, SO b)]) (by simp)
  refine hK _ _ HI ?_
  clear hK K f0 f1 f2 r0 r1 r2
  refine Drawn.take (i := 8) (v := ?v115) rfl (by kernel_rfl) (by kernel_rfl) (by kernel_rfl) (fun _ _ _ h => h) (by kernel_rfl) (fun W hW => ?_) HI ?_
  rotate_left
  · have ⟨e0, e1, e2, e3⟩ := sh W hW
    go_simp <;> exact rfl
  refine Drawn.done (by kernel_rfl) ?_
  try go_simp
  go_wp2
  refine bodyPost_ret (results_D2 rfl _ _ w.heap.size _ rfl ⟨HF2.head, rfl⟩) rfl ?_
  exact DRes.back HV.out HB.out (Nat.le_refl _) hsz _ _ _
theorem wValue_err (f x c : Int) (h : VE f x c) (w : World) :
    Calls Tryd.prog 56 #[.int .u8 f, .int .u64 x] w fun e w' => e = .returned (.tuple #[noD, .int .i64 c]) ∧ Below w.heap.size w w' := by
  have B1 := (Bx.nil w).push (DO false none 0 0 0)
  have hc := h.ne
  go_enter Tryd.func56, Tryd.ntmps56
  go_wp2_with fail
  refine (h.call _).mono ?_
  rintro e w2 ⟨rfl, h2⟩
  have B2 := B1.keep h2
  have hlt : w.heap.size < w2.heap.size := B2.lt (.head _)
  have B4 := (B2.fill3 (Nat.le_refl _) (by simp) (.bool false) (.slice none 0 0) (.int .i64 0)).push ZO
  obtain ⟨⟨f0, f1, f2⟩, r0, r1, r2⟩ := cells3 B2 w.heap.size _ _ _ _ (.head _)
  clear h2 B1 h
  go_wp2
  refine bodyPost_ret (results_D2 rfl _ _ w.heap.size _ rfl ⟨B4.tail.head, rfl⟩) rfl ?_
  exact ⟨rfl, B4.bel⟩
theorem wUnit_err (f x c : Int) (h : VE f x c) (w : World) :
    Calls Tryd.prog 60 #[.int .u8 f, .int .u64 x] w fun e w' => e = .returned (.tuple #[noD, .int .i64 c]) ∧ Below w.heap.size w w' := by
  have B1 := (Bx.nil w).push (DO false none 0 0 0)
  have hc := h.ne
  go_enter Tryd.func60, Tryd.ntmps60
  go_wp2_with fail
  refine (h.call _).mono ?_
  rintro e w2 ⟨rfl, h2⟩
  have B2 := B1.keep h2
  have hlt : w.heap.size < w2.heap.size := B2.lt (.head _)
  have B4 := (B2.fill3 (Nat.le_refl _) (by simp) (.bool false) (.slice none 0 0) (.int .i64 0)).push ZO
  obtain ⟨⟨f0, f1, f2⟩, r0, r1, r2⟩ := cells3 B2 w.heap.size _ _ _ _ (.head _)
  clear h2 B1 h
  go_wp2
  refine bodyPost_ret (results_D2 rfl _ _ w.heap.size _ rfl ⟨B4.tail.head, rfl⟩) rfl ?_
  exact ⟨rfl, B4.bel⟩
/-- The value of a word, in units of 2 to the -MaxExp. -/
def wv (b : Bool) (x : Int) : Int := sv (ng b x) (un b x) * pK (ue b x)
theorem m1h (K : Nat) : K - 1074 ≤ 0 + (K - 1074) := by omega
theorem m2h (K : Nat) : 53 + (K + 2001) ≤ K + 2054 := by omega
theorem m3h (K : Nat) (h : K = 16777216) : K + 2054 ≤ K - 1074 + 131072 ∧ K + 2054 ≤ 2 * K + 0 ∧ 0 ≤ K - 1074 := by omega
theorem db_small {n : Bool} {m e : Int} (h0 : 0 ≤ m) (h1 : m < 9007199254740992) (he0 : -1074 ≤ e) (he1 : e ≤ 2000) : DB (KK - 1074) (KK + 2054) (sv n m * pK e) := by
  have hK := KK_eq
  have d1 : DB 0 53 (sv n m) := by
    have e53 : (2 : Int) ^ 53 = 9007199254740992 := by decide
    refine ⟨by simp, ?_, ?_⟩ <;> rw [e53] <;> cases n <;> simp only [sv_t, sv_f] <;> omega
  have d2 : DB (KK - 1074) (KK + 2001) (pK e) := by
    unfold pK
    have hp := p2pos (e + KK).toNat
    obtain ⟨j, hj⟩ : ∃ j, (e + KK).toNat = KK - 1074 + j := ⟨(e + KK).toNat - (KK - 1074), by omega⟩
    have hm := p2mono (show (e + KK).toNat + 1 ≤ KK + 2001 by omega)
    rw [p2succ] at hm
    refine ⟨?_, by omega, by omega⟩
    rw [hj, Int.pow_add]
    exact Int.mul_emod_right _ _
  exact (DB.mul d1 d2).mono (m1h KK) (m2h KK)
theorem wValue (b : Bool) (x : Int) (h : Ok b x) (hf : sz b x < inf b) (w : World) (hT : Tab w) :
    Calls Tryd.prog 56 #[.int .u8 (fm b), .int .u64 x] w fun e w' => ∃ n zs ex a c, e = .returned (.tuple #[dV n a zs.length c ex, .int .i64 0]) ∧ IsD w w' a c n zs ex (wv b x) := by
  have hu := un_bd b x
  have hx := ue_bd b x
  have hK := KK_eq
  refine (wValueR b x h hf w hT).mono ?_
  intro e w' hr
  obtain ⟨n, a, k, c, ex, code, rfl, hv⟩ := DRes.toK hr (by omega)
  rw [show -(KK : Int) = -(KK : Int) - (0 : Nat) by omega] at hv
  obtain ⟨rfl, zs, v', rfl, h3, h4⟩ := hv.fits (db_small hu.1 hu.2 hx.1 hx.2) (m3h KK KK_eq).1 (m3h KK KK_eq).2.1 (m3h KK KK_eq).2.2
  rw [Int.pow_zero, Int.mul_one] at h3
  subst h3
  exact ⟨n, zs, ex, a, c, rfl, h4⟩
theorem wUnit (b : Bool) (x : Int) (h : Ok b x) (hf : sz b x < inf b) (w : World) (hT : Tab w) :
    Calls Tryd.prog 60 #[.int .u8 (fm b), .int .u64 x] w fun e w' => ∃ n zs ex a c, e = .returned (.tuple #[dV n a zs.length c ex, .int .i64 0]) ∧ IsD w w' a c n zs ex (pK (ue b x)) := by
  have hx := ue_bd b x
  have hK := KK_eq
  refine (wUnitR b x h hf w hT).mono ?_
  intro e w' hr
  obtain ⟨n, a, k, c, ex, code, rfl, hv⟩ := DRes.toK hr (by omega)
  rw [show -(KK : Int) = -(KK : Int) - (0 : Nat) by omega] at hv
  obtain ⟨rfl, zs, v', rfl, h3, h4⟩ := hv.fits (db_small (by decide) (by decide) hx.1 hx.2) (m3h KK KK_eq).1 (m3h KK KK_eq).2.1 (m3h KK KK_eq).2.2
  rw [Int.pow_zero, Int.mul_one, sv_f, Int.one_mul] at h3
  subst h3
  exact ⟨n, zs, ex, a, c, rfl, h4⟩
end Go.Proofs.YtiamdmfhkhlppaaDoor
