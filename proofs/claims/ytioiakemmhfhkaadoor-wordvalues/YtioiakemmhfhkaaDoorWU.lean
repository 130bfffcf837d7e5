import Derived.Test.YtioiakemmhfhkaaDoorWT
namespace Go.Proofs.YtioiakemmhfhkaaDoor
open Go.RowKit Go.Wd Go.Box
set_option linter.unusedVariables false
set_option maxRecDepth 3000
set_option maxHeartbeats 2000000 in
theorem rValue1 (b : Bool) (x : Int) (h : Ok b x) (hd : fd b x ≠ 0) (w : World) :
    Calls Tryd.prog 85 #[.int .u8 (fm b), .int .u64 x] w fun e w' => ∃ n zs ex a c, e = .returned (dV n a zs.length c ex) ∧ DN n zs ex (wv b x) ∧ Lie w' a zs ∧ Below w.heap.size w w' := by
  have B1 := (Bx.nil w).push (DO false none 0 0 0)
  have hdb := fd_bd b x
  have hu : un b x = fr b + fn b x := by unfold un; rw [if_neg hd]
  have hue : ue b x = fd b x - 1 + lo b := by unfold ue; omega
  have HWV : Hide (wv b x = sv (ng b x) (fr b + fn b x) * pK (fd b x - 1 + lo b)) := ⟨by unfold wv; rw [hu, hue]⟩
  have hfn := fn_bd b x
  have hfr := fr_le b
  have hfp := fr_pos b
  have hlo := lo_bd b
  have d1 : (fd b x == 0) = false := beq_eq_false_iff_ne.2 hd
  have hd1 : 1 ≤ fd b x := by omega
  clear hu hue hd
  go_enter Tryd.func85, Tryd.ntmps85
  go_wp2_with fail
  refine (rSplit b x h _).mono ?_
  rintro e w2 ⟨rfl, h2⟩
  have HF := (B1.keep h2).push (FO (ng b x) (fd b x) (fn b x))
  have hlt : w.heap.size < w2.heap.size := (B1.keep h2).lt (.head _)
  clear h2 B1
  go_wp2_with fail
  generalize hw3 : w2.alloc (FO (ng b x) (fd b x) (fn b x)) = w3 at *
  clear hw3
  replace HF := HF.drew
  have HI := HF.sub (L' := [(w2.heap.size, FO (ng b x) (fd b x) (fn b x))]) (by simp)
  have sh := fun W (hW : Bx w [(w2.heap.size, FO (ng b x) (fd b x) (fn b x))] W) => fields_cells hW w2.heap.size (ng b x) (fd b x) (fn b x) (.head _)
  refine Drawn.enter (Bx w [(w2.heap.size, FO (ng b x) (fd b x) (fn b x))]) (by kernel_rfl) ?_
  refine Drawn.take (i := 0) (v := ?v0) rfl (by kernel_rfl) (by kernel_rfl) (by kernel_rfl) (fun _ _ _ h => h) (by kernel_rfl) (fun W hW => ?_) HI ?_
  rotate_left
  · have ⟨q0, q1, q2⟩ := sh W hW
    go_simp <;> exact rfl
  refine Drawn.take (i := 1) (v := ?v1) rfl (by kernel_rfl) (by kernel_rfl) (by kernel_rfl) (fun _ _ _ h => h) (by kernel_rfl) (fun W hW => ?_) HI ?_
  rotate_left
  · have ⟨q0, q1, q2⟩ := sh W hW
    go_simp <;> exact rfl
  refine Drawn.take (i := 2) (v := ?v2) rfl (by kernel_rfl) (by kernel_rfl) (by kernel_rfl) (fun _ _ _ h => h) (by kernel_rfl) (fun W hW => ?_) HI ?_
  rotate_left
  · have ⟨q0, q1, q2⟩ := sh W hW
    go_simp <;> exact rfl
  refine Drawn.take (i := 5) (v := ?v3) rfl (by kernel_rfl) (by kernel_rfl) (by kernel_rfl) (fun _ _ _ h => h) (by kernel_rfl) (fun W hW => ?_) HI ?_
  rotate_left
  · have ⟨q0, q1, q2⟩ := sh W hW
    go_simp <;> exact rfl
  refine Drawn.take (i := 6) (v := ?v4) rfl (by kernel_rfl) (by kernel_rfl) (by kernel_rfl) (fun _ _ _ h => h) (by kernel_rfl) (fun W hW => ?_) HI ?_
  rotate_left
  · have ⟨q0, q1, q2⟩ := sh W hW
    go_simp <;> exact rfl
  refine Drawn.take (i := 9) (v := ?v5) rfl (by kernel_rfl) (by kernel_rfl) (by kernel_rfl) (fun _ _ _ h => h) (by kernel_rfl) (fun W hW => ?_) HI ?_
  rotate_left
  · have ⟨q0, q1, q2⟩ := sh W hW
    go_simp <;> exact rfl
  refine Drawn.take (i := 10) (v := ?v6) rfl (by kernel_rfl) (by kernel_rfl) (by kernel_rfl) (fun _ _ _ h => h) (by kernel_rfl) (fun W hW => ?_) HI ?_
  rotate_left
  · have ⟨q0, q1, q2⟩ := sh W hW
    go_simp <;> exact rfl
  refine Drawn.take (i := 12) (v := ?v7) rfl (by kernel_rfl) (by kernel_rfl) (by kernel_rfl) (fun _ _ _ h => h) (by kernel_rfl) (fun W hW => ?_) HI ?_
  rotate_left
  · have ⟨q0, q1, q2⟩ := sh W hW
    go_simp <;> exact rfl
  refine Drawn.take (i := 11) (v := .int .i64 (fd b x - 1)) rfl (by kernel_rfl) (by kernel_rfl) (by kernel_rfl) (fun _ _ _ h => h) (by kernel_rfl) (fun W hW => ?_) HI ?_
  · have ⟨q0, q1, q2⟩ := sh W hW
    go_simp <;> (exact wrap_ok (by omega) (by omega))
  refine Drawn.one (j := 3) (by kernel_rfl) rfl (fun K hK => ?_)
  go_simp
  refine (rFrac b _).mono ?_
  rintro e wn ⟨rfl, hn⟩
  refine hK _ _ (HI.keep hn) ?_
  clear hK K
  replace HI := HI.keep hn
  replace HF := HF.keep hn
  clear hn
  refine Drawn.take (i := 4) (v := .int .u64 (fr b)) rfl (by kernel_rfl) (by kernel_rfl) (by kernel_rfl) (fun _ _ _ h => h) (by kernel_rfl) (fun W hW => ?_) HI ?_
  · have ⟨q0, q1, q2⟩ := sh W hW
    go_simp <;> ((rw [shl_fc, Int.one_mul, Int.emod_eq_of_lt (by omega) (by omega)]; rfl))
  refine Drawn.take (i := 7) (v := .int .u64 (fr b + fn b x)) rfl (by kernel_rfl) (by kernel_rfl) (by kernel_rfl) (fun _ _ _ h => h) (by kernel_rfl) (fun W hW => ?_) HI ?_
  · have ⟨q0, q1, q2⟩ := sh W hW
    go_simp <;> ((rw [IntKind.wrap_u64]; omega))
  refine Drawn.one (j := 8) (by kernel_rfl) rfl (fun K hK => ?_)
  go_simp
  refine (of17 (fr b + fn b x) (by omega) (by omega) _).mono ?_
  rintro e wn ⟨zs, a, c, rfl, hN, _⟩
  refine hK _ _ (HI.keep hN.bel) ?_
  clear hK K
  replace HI := HI.keep hN.bel
  replace HF := HF.keep hN.bel
  have hl := hN.lie
  have G := Hide.mk hN.good
  clear hN
  refine Drawn.one (j := 13) (by kernel_rfl) rfl (fun K hK => ?_)
  go_simp
  refine (rLow b _).mono ?_
  rintro e wm ⟨rfl, hn⟩
  refine hK _ _ (HI.keep hn) ?_
  clear hK K
  replace HI := HI.keep hn
  replace HF := HF.keep hn
  replace hl := hl.below hn (Nat.le_refl _)
  clear hn
  refine Drawn.take (i := 14) (v := .int .i64 (fd b x - 1 + lo b)) rfl (by kernel_rfl) (by kernel_rfl) (by kernel_rfl) (fun _ _ _ h => h) (by kernel_rfl) (fun W hW => ?_) HI ?_
  · have ⟨q0, q1, q2⟩ := sh W hW
    go_simp <;> (exact wrap_ok (by omega) (by omega))
  refine Drawn.one (j := 15) (by kernel_rfl) rfl (fun K hK => ?_)
  go_simp
  refine (dformD (ng b x) a c zs (fd b x - 1 + lo b) _ hl G.out (by omega) (by omega) (by omega)).mono ?_
  rintro e wd2 ⟨n9, z9, x9, a9, c9, rfl, hD, l9, hb9⟩
  refine hK _ _ (HI.keep hb9) ?_
  clear hK K
  replace HI := HI.keep hb9
  replace HF := HF.keep hb9
  have HD := Hide.mk (And.intro hD l9)
  clear hD l9 hb9 G hl
  obtain ⟨⟨f0, f1, f2⟩, r0, r1, r2⟩ := cells3 HF w.heap.size _ _ _ _ (.tail _ (.head _))
  have HF2 := (HF.sub (L' := [(w.heap.size, DO false none 0 0 0), (w2.heap.size, FO (ng b x) (fd b x) (fn b x))]) (by simp)).fill3 (Nat.le_refl _) (by simp; omega) (.bool n9) (.slice a9 z9.length c9) (.int .i64 x9)
  refine Drawn.one (j := 16) (by kernel_rfl) rfl (fun K hK => ?_)
  go_simp
  replace HI := HF2.sub (L' := [(w2.heap.size, FO (ng b x) (fd b x) (fn b x))]) (by simp)
  refine hK _ _ HI ?_
  clear hK K f0 f1 f2 r0 r1 r2
  refine Drawn.done (by kernel_rfl) ?_
  try go_simp
  go_wp2
  refine bodyPost_ret (results_D1 rfl _ _ w.heap.size _ rfl ⟨HF2.head, rfl⟩) rfl ?_
  have L := Live.set3 (g := w.heap.size) ⟨(HF.sub (L' := [(w.heap.size, DO false none 0 0 0)]) (by simp)).head, rfl⟩ (.bool n9) (.slice a9 z9.length c9) (.int .i64 x9) (Live.one HD.out.2)
  exact ⟨n9, z9, x9, a9, c9, rfl, by rw [HWV.out]; exact HD.out.1, L.all (a9, z9) (.head _), HF2.bel⟩
theorem rValue (b : Bool) (x : Int) (h : Ok b x) (w : World) :
    Calls Tryd.prog 85 #[.int .u8 (fm b), .int .u64 x] w fun e w' => ∃ n zs ex a c, e = .returned (dV n a zs.length c ex) ∧ DN n zs ex (wv b x) ∧ Lie w' a zs ∧ Below w.heap.size w w' := by
  by_cases c : fd b x = 0
  · exact rValue0 b x h c w
  · exact rValue1 b x h c w
theorem two_dn {e : Int} (h0 : -16777216 ≤ e) (h1 : e ≤ 16777216) : DN false [1] e (pK e) := by
  have c1 : Nt.Can [1] := can_cons (by decide) (by decide) Nt.can_nil (by intro _; decide)
  have v1 : Nt.val [1] = 1 := val_one 1
  refine ⟨⟨c1, by simp, .inr ⟨by simp, by rw [v1]; rfl, h0, h1⟩⟩, ?_⟩
  unfold dv
  rw [v1, sv_f, Int.one_mul]
theorem rTwo (e : Int) (w : World) :
    Calls Tryd.prog 146 #[.int .i64 e] w fun e' w' => ∃ a c, e' = .returned (dV false a ([1] : List Int).length c e) ∧ Lie w' a [1] ∧ Below w.heap.size w w' := by
  go_enter Tryd.func146, Tryd.ntmps146
  go_wp2
  have B1 := ((Bx.nil w).push (DO false (some ⟨w.heap.size + 1, 0, none⟩) 1 1 e)).push (.cells #[.int .u32 1] 100 (0, 0))
  refine bodyPost_ret (results_D1 rfl _ _ w.heap.size _ rfl ⟨B1.tail.head, rfl⟩) rfl ?_
  refine ⟨some ⟨w.heap.size + 1, 0, none⟩, 1, rfl, ?_, B1.bel⟩
  have := lie_new (w.alloc (DO false (some ⟨w.heap.size + 1, 0, none⟩) 1 1 e)) [1]
  simpa using this
set_option maxHeartbeats 2000000 in
theorem rUnit0 (b : Bool) (x : Int) (h : Ok b x) (hd : fd b x = 0) (w : World) :
    Calls Tryd.prog 86 #[.int .u8 (fm b), .int .u64 x] w fun e w' => ∃ a c, e = .returned (dV false a ([1] : List Int).length c (ue b x)) ∧ Lie w' a [1] ∧ Below w.heap.size w w' := by
  have B1 := (Bx.nil w).push (DO false none 0 0 0)
  have HUE : Hide (ue b x = lo b) := ⟨by unfold ue; rw [hd]; omega⟩
  have d1 : (fd b x == 0) = true := by simp [hd]
  clear hd
  go_enter Tryd.func86, Tryd.ntmps86
  go_wp2_with fail
  refine (rSplit b x h _).mono ?_
  rintro e w2 ⟨rfl, h2⟩
  have HF := (B1.keep h2).push (FO (ng b x) (fd b x) (fn b x))
  have hlt : w.heap.size < w2.heap.size := (B1.keep h2).lt (.head _)
  clear h2 B1
  go_wp2_with fail
  generalize hw3 : w2.alloc (FO (ng b x) (fd b x) (fn b x)) = w3 at *
  clear hw3
  refine (rLow b _).mono ?_
  rintro e w4 ⟨rfl, h4⟩
  replace HF := HF.keep h4
  clear h4
  go_wp2_with fail
  refine (rTwo (lo b) _).mono ?_
  rintro e w5 ⟨a, c, rfl, l5, h5⟩
  replace HF := HF.keep h5
  have HL := Hide.mk l5
  clear h5 l5
  obtain ⟨⟨f0, f1, f2⟩, r0, r1, r2⟩ := cells3 HF w.heap.size _ _ _ _ (.tail _ (.head _))
  have HF2 := (HF.sub (L' := [(w.heap.size, DO false none 0 0 0), (w2.heap.size, FO (ng b x) (fd b x) (fn b x))]) (by simp)).fill3 (Nat.le_refl _) (by simp; omega) (.bool false) (.slice a ([1] : List Int).length c) (.int .i64 (lo b))
  go_wp2
  refine bodyPost_ret (results_D1 rfl _ _ w.heap.size _ rfl ⟨HF2.head, rfl⟩) rfl ?_
  have L := Live.set3 (g := w.heap.size) ⟨(HF.sub (L' := [(w.heap.size, DO false none 0 0 0)]) (by simp)).head, rfl⟩ (.bool false) (.slice a ([1] : List Int).length c) (.int .i64 (lo b)) (Live.one HL.out)
  exact ⟨a, c, by rw [HUE.out]; rfl, L.all (a, [1]) (.head _), HF2.bel⟩
set_option maxHeartbeats 2000000 in
theorem rUnit1 (b : Bool) (x : Int) (h : Ok b x) (hd : fd b x ≠ 0) (w : World) :
    Calls Tryd.prog 86 #[.int .u8 (fm b), .int .u64 x] w fun e w' => ∃ a c, e = .returned (dV false a ([1] : List Int).length c (ue b x)) ∧ Lie w' a [1] ∧ Below w.heap.size w w' := by
  have B1 := (Bx.nil w).push (DO false none 0 0 0)
  have hdb := fd_bd b x
  have HUE : Hide (ue b x = fd b x - 1 + lo b) := ⟨by unfold ue; omega⟩
  have hlo := lo_bd b
  have d1 : (fd b x == 0) = false := beq_eq_false_iff_ne.2 hd
  have hd1 : 1 ≤ fd b x := by omega
  clear hd
  go_enter Tryd.func86, Tryd.ntmps86
  go_wp2_with fail
  refine (rSplit b x h _).mono ?_
  rintro e w2 ⟨rfl, h2⟩
  have HF := (B1.keep h2).push (FO (ng b x) (fd b x) (fn b x))
  have hlt : w.heap.size < w2.heap.size := (B1.keep h2).lt (.head _)
  clear h2 B1
  go_wp2_with fail
  generalize hw3 : w2.alloc (FO (ng b x) (fd b x) (fn b x)) = w3 at *
  clear hw3
  replace HF := HF.drew
  have HI := HF.sub (L' := [(w2.heap.size, FO (ng b x) (fd b x) (fn b x))]) (by simp)
  have sh := fun W (hW : Bx w [(w2.heap.size, FO (ng b x) (fd b x) (fn b x))] W) => fields_cells hW w2.heap.size (ng b x) (fd b x) (fn b x) (.head _)
  refine Drawn.enter (Bx w [(w2.heap.size, FO (ng b x) (fd b x) (fn b x))]) (by kernel_rfl) ?_
  refine Drawn.take (i := 0) (v := ?v8) rfl (by kernel_rfl) (by kernel_rfl) (by kernel_rfl) (fun _ _ _ h => h) (by kernel_rfl) (fun W hW => ?_) HI ?_
  rotate_left
  · have ⟨q0, q1, q2⟩ := sh W hW
    go_simp <;> exact rfl
  refine Drawn.take (i := 1) (v := ?v9) rfl (by kernel_rfl) (by kernel_rfl) (by kernel_rfl) (fun _ _ _ h => h) (by kernel_rfl) (fun W hW => ?_) HI ?_
  rotate_left
  · have ⟨q0, q1, q2⟩ := sh W hW
    go_simp <;> exact rfl
  refine Drawn.take (i := 3) (v := ?v10) rfl (by kernel_rfl) (by kernel_rfl) (by kernel_rfl) (fun _ _ _ h => h) (by kernel_rfl) (fun W hW => ?_) HI ?_
  rotate_left
  · have ⟨q0, q1, q2⟩ := sh W hW
    go_simp <;> exact rfl
  refine Drawn.take (i := 2) (v := .int .i64 (fd b x - 1)) rfl (by kernel_rfl) (by kernel_rfl) (by kernel_rfl) (fun _ _ _ h => h) (by kernel_rfl) (fun W hW => ?_) HI ?_
  · have ⟨q0, q1, q2⟩ := sh W hW
    go_simp <;> (exact wrap_ok (by omega) (by omega))
  refine Drawn.one (j := 4) (by kernel_rfl) rfl (fun K hK => ?_)
  go_simp
  refine (rLow b _).mono ?_
  rintro e wn ⟨rfl, hn⟩
  refine hK _ _ (HI.keep hn) ?_
  clear hK K
  replace HI := HI.keep hn
  replace HF := HF.keep hn
  clear hn
  refine Drawn.take (i := 5) (v := .int .i64 (fd b x - 1 + lo b)) rfl (by kernel_rfl) (by kernel_rfl) (by kernel_rfl) (fun _ _ _ h => h) (by kernel_rfl) (fun W hW => ?_) HI ?_
  · have ⟨q0, q1, q2⟩ := sh W hW
    go_simp <;> (exact wrap_ok (by omega) (by omega))
  refine Drawn.one (j := 6) (by kernel_rfl) rfl (fun K hK => ?_)
  go_simp
  refine (rTwo (fd b x - 1 + lo b) _).mono ?_
  rintro e w5 ⟨a, c, rfl, l5, h5⟩
  refine hK _ _ (HI.keep h5) ?_
  clear hK K
  replace HI := HI.keep h5
  replace HF := HF.keep h5
  have HL := Hide.mk l5
  clear h5 l5
  obtain ⟨⟨f0, f1, f2⟩, r0, r1, r2⟩ := cells3 HF w.heap.size _ _ _ _ (.tail _ (.head _))
  have HF2 := (HF.sub (L' := [(w.heap.size, DO false none 0 0 0), (w2.heap.size, FO (ng b x) (fd b x) (fn b x))]) (by simp)).fill3 (Nat.le_refl _) (by simp; omega) (.bool false) (.slice a ([1] : List Int).length c) (.int .i64 (fd b x - 1 + lo b))
  refine Drawn.one (j := 7) (by kernel_rfl) rfl (fun K hK => ?_)
  go_simp
  replace HI := HF2.sub (L' := [(w2.heap.size, FO (ng b x) (fd b x) (fn b x))]) (by simp)
  refine hK _ _ HI ?_
  clear hK K f0 f1 f2 r0 r1 r2
  refine Drawn.done (by kernel_rfl) ?_
  try go_simp
  go_wp2
  refine bodyPost_ret (results_D1 rfl _ _ w.heap.size _ rfl ⟨HF2.head, rfl⟩) rfl ?_
  have L := Live.set3 (g := w.heap.size) ⟨(HF.sub (L' := [(w.heap.size, DO false none 0 0 0)]) (by simp)).head, rfl⟩ (.bool false) (.slice a ([1] : List Int).length c) (.int .i64 (fd b x - 1 + lo b)) (Live.one HL.out)
  exact ⟨a, c, by rw [HUE.out]; rfl, L.all (a, [1]) (.head _), HF2.bel⟩
theorem rUnit (b : Bool) (x : Int) (h : Ok b x) (w : World) :
    Calls Tryd.prog 86 #[.int .u8 (fm b), .int .u64 x] w fun e w' => ∃ n zs ex a c, e = .returned (dV n a zs.length c ex) ∧ DN n zs ex (pK (ue b x)) ∧ Lie w' a zs ∧ Below w.heap.size w w' := by
  have hx := ue_bd b x
  by_cases c : fd b x = 0
  · refine (rUnit0 b x h c w).mono ?_
    rintro e w' ⟨a, c, rfl, h1, h2⟩
    exact ⟨false, [1], _, a, c, rfl, two_dn (by omega) (by omega), h1, h2⟩
  · refine (rUnit1 b x h c w).mono ?_
    rintro e w' ⟨a, c, rfl, h1, h2⟩
    exact ⟨false, [1], _, a, c, rfl, two_dn (by omega) (by omega), h1, h2⟩
end Go.Proofs.YtioiakemmhfhkaaDoor
