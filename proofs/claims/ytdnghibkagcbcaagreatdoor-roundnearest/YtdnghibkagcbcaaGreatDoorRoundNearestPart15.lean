import Derived.Test.YtdnghibkagcbcaaGreatDoorRoundNearestPart14
namespace Go.Proofs.YtdnghibkagcbcaaGreatDoor
open Go.RowKit Go.Wd Go.Box
set_option linter.unusedVariables false
set_option maxRecDepth 3000
theorem wv_dbN (b : Bool) (x : Int) : DB (KK - 1074) (KK + 2054) (wv b x) := by
  have hu := un_bd b x
  have hx := ue_bd b x
  exact db_small hu.1 hu.2 hx.1 hx.2
theorem n4h (K : Nat) (h : K = 16777216) : K + 11000 + 1 ≤ K - 1200 + 131072 ∧ K + 11000 + 1 ≤ 2 * K ∧ K - 1200 ≤ K - 1074 ∧ K + 2054 ≤ K + 11000 := by omega
theorem suppose12R {F G : Nat → World → Bool → List Int → Int → Option Addr → Nat → Bool → List Int → Int → Option Addr → Nat → Prop} {T : Prop} (h : (∀ a b c d e f g i j k l m, F a b c d e f g i j k l m → G a b c d e f g i j k l m) → T) (k : ∀ a b c d e f g i j k l m, F a b c d e f g i j k l m → G a b c d e f g i j k l m) : T := h k
set_option maxHeartbeats 20000000 in
theorem rn_main (n : Bool) (a : Option Addr) (c : Nat) (z : List Int) (ex y : Int) (b : Bool) (KO : ∀ W g, DLie W a z → At3 W g 0 n a z.length c ex → Calls Tryz.prog 16 #[.int .u8 (fm b), .int .u8 1, .slice (some ⟨g, 0, none⟩) 1 1] W fun e w' => e = .returned (.int .i64 0) ∧ Below W.heap.size W w') (hy : Ok b y) (hfy : sz b y < inf b) (x U : Int) (KS : ∀ W, Calls Tryz.prog 37 #[dV n a z.length c ex] W fun e w' => e = .returned (dV n a z.length c x) ∧ Below W.heap.size W w') (N : DN n z x U) (du : DB (KK - 1200) (KK + 11000) U) (X1 V1 : Int) (KR1 : ∀ W, Lie W a z → Tab W → Calls Tryz.prog 14 #[.int .u8 (fm b), .int .u8 1, dV n a z.length c x] W fun e w' => e = .returned (.tuple #[.int .u64 V1, .int .u8 X1, .int .i64 0]) ∧ Below W.heap.size W w') (HC1 : Hide ((0 < bits BinOp.and IntKind.u8 X1 4) ∨ (bits BinOp.and IntKind.u8 X1 4 ≤ 0 ∧ Ok b V1 ∧ sz b V1 < inf b ∧ (∀ n1 z1 e1 n2 z2 e2, DN n1 z1 e1 (wv b V1 - U) → DN n2 z2 e2 (wv b y - U) → ¬ 0 < sgn (Nt.val z1 * pK e1) (Nt.val z2 * pK e2))))) (X2 V2 : Int) (KR2 : ∀ W, Lie W a z → Tab W → Calls Tryz.prog 14 #[.int .u8 (fm b), .int .u8 2, dV n a z.length c x] W fun e w' => e = .returned (.tuple #[.int .u64 V2, .int .u8 X2, .int .i64 0]) ∧ Below W.heap.size W w') (HC2 : Hide ((0 < bits BinOp.and IntKind.u8 X2 4) ∨ (bits BinOp.and IntKind.u8 X2 4 ≤ 0 ∧ Ok b V2 ∧ sz b V2 < inf b ∧ (∀ n1 z1 e1 n2 z2 e2, DN n1 z1 e1 (wv b V2 - U) → DN n2 z2 e2 (wv b y - U) → ¬ 0 < sgn (Nt.val z1 * pK e1) (Nt.val z2 * pK e2))))) (hl : (z.length : Int) ≤ 300) (w : World) (u : DLie w a z) (hT : Tab w) :
    Calls Tryz.prog 7 #[.int .u8 (fm b), dV n a z.length c ex, .int .u64 y] w fun e w' => e = .returned (.bool true) ∧ Below w.heap.size w w' := by
  have HO := fun W g h1 h2 => Hide.mk (KO W g h1 h2)
  clear KO
  have HS := fun W => Hide.mk (KS W)
  have HR1 := fun W h1 h2 => Hide.mk (KR1 W h1 h2)
  have HR2 := fun W h1 h2 => Hide.mk (KR2 W h1 h2)
  have HN := Hide.mk N
  have hh := n4h KK KK_eq
  have DBu := Hide.mk du
  have DBv := fun v => Hide.mk (((wv_dbN b v).mono hh.2.2.1 hh.2.2.2))
  have DBw := DBv y
  have hh1 := hh.1
  have hh2 := hh.2.1
  clear KS KR1 KR2 N du hh
  have BX := (Bx.nil w).push (DO n a z.length c ex)
  obtain ⟨⟨q0, q1, q2⟩, _⟩ := cells3 BX w.heap.size _ _ _ _ (show (w.heap.size, DO n a z.length c ex) ∈ _ by simp)
  go_enter Tryz.func7, Tryz.ntmps7
  go_wp2_with fail
  refine (lLong4 n a z.length c ex _ false (decide_eq_false (by omega))).mono ?_
  rintro e v15 ⟨rfl, hk⟩
  replace BX := BX.keep hk
  clear hk q0 q1 q2
  obtain ⟨⟨q0, q1, q2⟩, _⟩ := cells3 BX w.heap.size _ _ _ _ (show (w.heap.size, DO n a z.length c ex) ∈ _ by simp)
  go_wp2_with fail
  replace BX := BX.push (DO n a z.length c ex)
  clear q0 q1 q2
  obtain ⟨⟨q0, q1, q2⟩, _⟩ := cells3 BX w.heap.size _ _ _ _ (show (w.heap.size, DO n a z.length c ex) ∈ _ by simp)
  refine ((HO _ _ (u.below BX.bel) (at3_of BX (.head _))).out).mono ?_
  rintro e v16 ⟨rfl, hk⟩
  replace BX := BX.keep hk
  clear hk q0 q1 q2
  obtain ⟨⟨q0, q1, q2⟩, _⟩ := cells3 BX w.heap.size _ _ _ _ (show (w.heap.size, DO n a z.length c ex) ∈ _ by simp)
  go_wp2_with fail
  refine (rGood b y hy _).mono ?_
  rintro e v17 ⟨rfl, hk⟩
  replace BX := BX.keep hk
  clear hk q0 q1 q2
  obtain ⟨⟨q0, q1, q2⟩, _⟩ := cells3 BX w.heap.size _ _ _ _ (show (w.heap.size, DO n a z.length c ex) ∈ _ by simp)
  go_wp2_with fail
  refine (rFinite b y hy hfy _).mono ?_
  rintro e v18 ⟨rfl, hk⟩
  replace BX := BX.keep hk
  clear hk q0 q1 q2
  obtain ⟨⟨q0, q1, q2⟩, _⟩ := cells3 BX w.heap.size _ _ _ _ (show (w.heap.size, DO n a z.length c ex) ∈ _ by simp)
  go_wp2_with fail
  clear q0 q1 q2
  have HF := (BX.sub (L' := [(w.heap.size, DO n a z.length c ex)]) (by simp)).drew
  clear BX
  have HI := HF
  have sh := fun W (hW : Bx w [(w.heap.size, DO n a z.length c ex)] W) => (cells3 hW w.heap.size _ _ _ _ (.head _)).1
  refine Drawn.enter (Bx w [(w.heap.size, DO n a z.length c ex)]) (by kernel_rfl) ?_
  refine Drawn.tk (i := 0) (v := ?v0) rfl (fun W hW => ?_) HI ?_
  rotate_left
  · have ⟨q0, q1, q2⟩ := sh W hW
    go_simp <;> exact rfl
  refine Drawn.tk (i := 1) (v := ?v1) rfl (fun W hW => ?_) HI ?_
  rotate_left
  · have ⟨q0, q1, q2⟩ := sh W hW
    go_simp <;> exact rfl
  refine Drawn.tk (i := 3) (v := ?v2) rfl (fun W hW => ?_) HI ?_
  rotate_left
  · have ⟨q0, q1, q2⟩ := sh W hW
    go_simp <;> exact rfl
  clear sh
  generalize hdr : v18.drew = W00 at *
  clear hdr
  refine suppose12R (F := fun g7 W nd zd xd ad cd nv zv xv av cv => Bx w [(g7, DO false ad (List.length zd) cd xd), (w.heap.size, DO n a z.length c ex)] W ∧ Lie W ad zd ∧ DN nd zd xd (wv b y - U)) (G := ?G) (fun Rest => ?main) ?rest
  case main =>
    refine Drawn.pair (i := 2) (j := 7) (by kernel_rfl) rfl rfl (fun K hK => ?_) (fun K hK => ?_)
    · go_simp
      refine (rValue b y hy _).mono ?_
      rintro e W1 ⟨nv, zv, xv, av, cv, rfl, Nv, lv, hn⟩
      refine hK _ _ (HI.keep hn) ?_
      have HV := Hide.mk Nv
      clear Nv
      clear hK K
      replace HI := HI.keep hn
      replace HF := HF.keep hn
      clear hn
      refine Drawn.pair (i := 4) (j := 7) (by kernel_rfl) rfl rfl (fun K hK => ?_) (fun K hK => ?_)
      · go_simp
        refine (HS _).out.mono ?_
        rintro e W2 ⟨rfl, hn⟩
        refine hK _ _ (HI.keep hn) ?_
        replace lv := lv.below hn (Nat.le_refl _)
        clear hK K
        replace HI := HI.keep hn
        replace HF := HF.keep hn
        clear hn
        refine Drawn.pair (i := 5) (j := 7) (by kernel_rfl) rfl rfl (fun K hK => ?_) (fun K hK => ?_)
        · go_simp
          refine (subD nv n av a cv c zv z xv x _ lv (u.below HI.bel).lie HV.out HN.out DBw.out DBu.out hh1 hh2).mono ?_
          rintro e W3 ⟨nd, zd, xd, ad, cd, rfl, Nd, ld, hn⟩
          refine hK _ _ (HI.keep hn) ?_
          have HD := Hide.mk Nd
          clear Nd lv HV
          clear hK K
          replace HI := HI.keep hn
          replace HF := HF.keep hn
          clear hn
          refine Drawn.pair (i := 6) (j := 7) (by kernel_rfl) rfl rfl (fun K hK => ?_) (fun K hK => ?_)
          · go_simp
            refine (rAbsD nd ad cd zd.length xd _).mono ?_
            rintro e W4 ⟨rfl, hn⟩
            refine hK _ _ (HI.keep hn) ?_
            replace ld := ld.below hn (Nat.le_refl _)
            clear hK K
            replace HI := HI.keep hn
            replace HF := HF.keep hn
            clear hn
            refine Drawn.one (j := 7) (by kernel_rfl) rfl (fun K hK => ?_)
            go_simp
            refine hK _ _ (HI.grownP (DO false none 0 0 0)) ?_
            clear hK K
            have o7 : w.heap.size < W4.heap.size := HF.lt (p := (w.heap.size, DO n a z.length c ex)) (by simp)
            replace HI := HI.grownP (DO false none 0 0 0)
            replace HF := HF.push (DO false none 0 0 0)
            replace ld := ld.below (below_alloc W4 (DO false none 0 0 0)) (Nat.le_refl _)
            generalize hg7 : W4.alloc (DO false none 0 0 0) = W5 at *
            clear hg7
            generalize hh7 : W4.heap.size = g7 at *
            clear hh7
            replace HF := HF.sub (L' := [(g7, DO false none 0 0 0), (w.heap.size, DO n a z.length c ex)]) (by simp)
            obtain ⟨⟨f0, f1, f2⟩, r0, r1, r2⟩ := cells3 HF g7 _ _ _ _ (.head _)
            replace ld := lie_set3P HF.head (.bool false) (.slice ad zd.length cd) (.int .i64 xd) ld
            replace HF := HF.fill3 (by omega) (by simp; omega) (.bool false) (.slice ad zd.length cd) (.int .i64 xd)
            refine Drawn.one (j := 8) (by kernel_rfl) rfl (fun K hK => ?_)
            go_simp
            refine hK _ _ (HF.sub (by simp)) ?_
            clear hK K f0 f1 f2 r0 r1 r2
            refine Drawn.done (by kernel_rfl) ?_
            try go_simp
            generalize hWf : (((W5.setCell ⟨g7, 0, none⟩ (.bool false)).setCell ⟨g7, 1, none⟩ (.slice ad zd.length cd)).setCell ⟨g7, 2, none⟩ (.int .i64 xd)) = Wf at *
            exact Rest g7 Wf nd zd xd ad cd nv zv xv av cv ⟨HF, ld, HD.out⟩
          · go_simp
            refine hK _ _ (HI.grownP (DO false none 0 0 0)) ?_
            clear hK K
            have o7 : w.heap.size < W3.heap.size := HF.lt (p := (w.heap.size, DO n a z.length c ex)) (by simp)
            replace HI := HI.grownP (DO false none 0 0 0)
            replace HF := HF.push (DO false none 0 0 0)
            replace ld := ld.below (below_alloc W3 (DO false none 0 0 0)) (Nat.le_refl _)
            generalize hg7 : W3.alloc (DO false none 0 0 0) = W6 at *
            clear hg7
            generalize hh7 : W3.heap.size = g7 at *
            clear hh7
            refine Drawn.one (j := 6) (by kernel_rfl) rfl (fun K hK => ?_)
            go_simp
            refine (rAbsD nd ad cd zd.length xd _).mono ?_
            rintro e W7 ⟨rfl, hn⟩
            refine hK _ _ (HI.keep hn) ?_
            replace ld := ld.below hn (Nat.le_refl _)
            clear hK K
            replace HI := HI.keep hn
            replace HF := HF.keep hn
            clear hn
            replace HF := HF.sub (L' := [(g7, DO false none 0 0 0), (w.heap.size, DO n a z.length c ex)]) (by simp)
            obtain ⟨⟨f0, f1, f2⟩, r0, r1, r2⟩ := cells3 HF g7 _ _ _ _ (.head _)
            replace ld := lie_set3P HF.head (.bool false) (.slice ad zd.length cd) (.int .i64 xd) ld
            replace HF := HF.fill3 (by omega) (by simp; omega) (.bool false) (.slice ad zd.length cd) (.int .i64 xd)
            refine Drawn.one (j := 8) (by kernel_rfl) rfl (fun K hK => ?_)
            go_simp
            refine hK _ _ (HF.sub (by simp)) ?_
            clear hK K f0 f1 f2 r0 r1 r2
            refine Drawn.done (by kernel_rfl) ?_
            try go_simp
            generalize hWf : (((W7.setCell ⟨g7, 0, none⟩ (.bool false)).setCell ⟨g7, 1, none⟩ (.slice ad zd.length cd)).setCell ⟨g7, 2, none⟩ (.int .i64 xd)) = Wf at *
            exact Rest g7 Wf nd zd xd ad cd nv zv xv av cv ⟨HF, ld, HD.out⟩
        · go_simp
          refine hK _ _ (HI.grownP (DO false none 0 0 0)) ?_
          clear hK K
          have o7 : w.heap.size < W2.heap.size := HF.lt (p := (w.heap.size, DO n a z.length c ex)) (by simp)
          replace HI := HI.grownP (DO false none 0 0 0)
          replace HF := HF.push (DO false none 0 0 0)
          replace lv := lv.below (below_alloc W2 (DO false none 0 0 0)) (Nat.le_refl _)
          generalize hg7 : W2.alloc (DO false none 0 0 0) = W8 at *
          clear hg7
          generalize hh7 : W2.heap.size = g7 at *
          clear hh7
          refine Drawn.one (j := 5) (by kernel_rfl) rfl (fun K hK => ?_)
          go_simp
          refine (subD nv n av a cv c zv z xv x _ lv (u.below HI.bel).lie HV.out HN.out DBw.out DBu.out hh1 hh2).mono ?_
          rintro e W9 ⟨nd, zd, xd, ad, cd, rfl, Nd, ld, hn⟩
          refine hK _ _ (HI.keep hn) ?_
          have HD := Hide.mk Nd
          clear Nd lv HV
          clear hK K
          replace HI := HI.keep hn
          replace HF := HF.keep hn
          clear hn
          refine Drawn.one (j := 6) (by kernel_rfl) rfl (fun K hK => ?_)
          go_simp
          refine (rAbsD nd ad cd zd.length xd _).mono ?_
          rintro e W10 ⟨rfl, hn⟩
          refine hK _ _ (HI.keep hn) ?_
          replace ld := ld.below hn (Nat.le_refl _)
          clear hK K
          replace HI := HI.keep hn
          replace HF := HF.keep hn
          clear hn
          replace HF := HF.sub (L' := [(g7, DO false none 0 0 0), (w.heap.size, DO n a z.length c ex)]) (by simp)
          obtain ⟨⟨f0, f1, f2⟩, r0, r1, r2⟩ := cells3 HF g7 _ _ _ _ (.head _)
          replace ld := lie_set3P HF.head (.bool false) (.slice ad zd.length cd) (.int .i64 xd) ld
          replace HF := HF.fill3 (by omega) (by simp; omega) (.bool false) (.slice ad zd.length cd) (.int .i64 xd)
          refine Drawn.one (j := 8) (by kernel_rfl) rfl (fun K hK => ?_)
          go_simp
          refine hK _ _ (HF.sub (by simp)) ?_
          clear hK K f0 f1 f2 r0 r1 r2
          refine Drawn.done (by kernel_rfl) ?_
          try go_simp
          generalize hWf : (((W10.setCell ⟨g7, 0, none⟩ (.bool false)).setCell ⟨g7, 1, none⟩ (.slice ad zd.length cd)).setCell ⟨g7, 2, none⟩ (.int .i64 xd)) = Wf at *
          exact Rest g7 Wf nd zd xd ad cd nv zv xv av cv ⟨HF, ld, HD.out⟩
      · go_simp
        refine hK _ _ (HI.grownP (DO false none 0 0 0)) ?_
        clear hK K
        have o7 : w.heap.size < W1.heap.size := HF.lt (p := (w.heap.size, DO n a z.length c ex)) (by simp)
        replace HI := HI.grownP (DO false none 0 0 0)
        replace HF := HF.push (DO false none 0 0 0)
        replace lv := lv.below (below_alloc W1 (DO false none 0 0 0)) (Nat.le_refl _)
        generalize hg7 : W1.alloc (DO false none 0 0 0) = W11 at *
        clear hg7
        generalize hh7 : W1.heap.size = g7 at *
        clear hh7
        refine Drawn.one (j := 4) (by kernel_rfl) rfl (fun K hK => ?_)
        go_simp
        refine (HS _).out.mono ?_
        rintro e W12 ⟨rfl, hn⟩
        refine hK _ _ (HI.keep hn) ?_
        replace lv := lv.below hn (Nat.le_refl _)
        clear hK K
        replace HI := HI.keep hn
        replace HF := HF.keep hn
        clear hn
        refine Drawn.one (j := 5) (by kernel_rfl) rfl (fun K hK => ?_)
        go_simp
        refine (subD nv n av a cv c zv z xv x _ lv (u.below HI.bel).lie HV.out HN.out DBw.out DBu.out hh1 hh2).mono ?_
        rintro e W13 ⟨nd, zd, xd, ad, cd, rfl, Nd, ld, hn⟩
        refine hK _ _ (HI.keep hn) ?_
        have HD := Hide.mk Nd
        clear Nd lv HV
        clear hK K
        replace HI := HI.keep hn
        replace HF := HF.keep hn
        clear hn
        refine Drawn.one (j := 6) (by kernel_rfl) rfl (fun K hK => ?_)
        go_simp
        refine (rAbsD nd ad cd zd.length xd _).mono ?_
        rintro e W14 ⟨rfl, hn⟩
        refine hK _ _ (HI.keep hn) ?_
        replace ld := ld.below hn (Nat.le_refl _)
        clear hK K
        replace HI := HI.keep hn
        replace HF := HF.keep hn
        clear hn
        replace HF := HF.sub (L' := [(g7, DO false none 0 0 0), (w.heap.size, DO n a z.length c ex)]) (by simp)
        obtain ⟨⟨f0, f1, f2⟩, r0, r1, r2⟩ := cells3 HF g7 _ _ _ _ (.head _)
        replace ld := lie_set3P HF.head (.bool false) (.slice ad zd.length cd) (.int .i64 xd) ld
        replace HF := HF.fill3 (by omega) (by simp; omega) (.bool false) (.slice ad zd.length cd) (.int .i64 xd)
        refine Drawn.one (j := 8) (by kernel_rfl) rfl (fun K hK => ?_)
        go_simp
        refine hK _ _ (HF.sub (by simp)) ?_
        clear hK K f0 f1 f2 r0 r1 r2
        refine Drawn.done (by kernel_rfl) ?_
        try go_simp
        generalize hWf : (((W14.setCell ⟨g7, 0, none⟩ (.bool false)).setCell ⟨g7, 1, none⟩ (.slice ad zd.length cd)).setCell ⟨g7, 2, none⟩ (.int .i64 xd)) = Wf at *
        exact Rest g7 Wf nd zd xd ad cd nv zv xv av cv ⟨HF, ld, HD.out⟩
    · go_simp
      refine hK _ _ (HI.grownP (DO false none 0 0 0)) ?_
      clear hK K
      have o7 : w.heap.size < W00.heap.size := HF.lt (p := (w.heap.size, DO n a z.length c ex)) (by simp)
      replace HI := HI.grownP (DO false none 0 0 0)
      replace HF := HF.push (DO false none 0 0 0)
      generalize hg7 : W00.alloc (DO false none 0 0 0) = W15 at *
      clear hg7
      generalize hh7 : W00.heap.size = g7 at *
      clear hh7
      refine Drawn.one (j := 2) (by kernel_rfl) rfl (fun K hK => ?_)
      go_simp
      refine (rValue b y hy _).mono ?_
      rintro e W16 ⟨nv, zv, xv, av, cv, rfl, Nv, lv, hn⟩
      refine hK _ _ (HI.keep hn) ?_
      have HV := Hide.mk Nv
      clear Nv
      clear hK K
      replace HI := HI.keep hn
      replace HF := HF.keep hn
      clear hn
      refine Drawn.one (j := 4) (by kernel_rfl) rfl (fun K hK => ?_)
      go_simp
      refine (HS _).out.mono ?_
      rintro e W17 ⟨rfl, hn⟩
      refine hK _ _ (HI.keep hn) ?_
      replace lv := lv.below hn (Nat.le_refl _)
      clear hK K
      replace HI := HI.keep hn
      replace HF := HF.keep hn
      clear hn
      refine Drawn.one (j := 5) (by kernel_rfl) rfl (fun K hK => ?_)
      go_simp
      refine (subD nv n av a cv c zv z xv x _ lv (u.below HI.bel).lie HV.out HN.out DBw.out DBu.out hh1 hh2).mono ?_
      rintro e W18 ⟨nd, zd, xd, ad, cd, rfl, Nd, ld, hn⟩
      refine hK _ _ (HI.keep hn) ?_
      have HD := Hide.mk Nd
      clear Nd lv HV
      clear hK K
      replace HI := HI.keep hn
      replace HF := HF.keep hn
      clear hn
      refine Drawn.one (j := 6) (by kernel_rfl) rfl (fun K hK => ?_)
      go_simp
      refine (rAbsD nd ad cd zd.length xd _).mono ?_
      rintro e W19 ⟨rfl, hn⟩
      refine hK _ _ (HI.keep hn) ?_
      replace ld := ld.below hn (Nat.le_refl _)
      clear hK K
      replace HI := HI.keep hn
      replace HF := HF.keep hn
      clear hn
      replace HF := HF.sub (L' := [(g7, DO false none 0 0 0), (w.heap.size, DO n a z.length c ex)]) (by simp)
      obtain ⟨⟨f0, f1, f2⟩, r0, r1, r2⟩ := cells3 HF g7 _ _ _ _ (.head _)
      replace ld := lie_set3P HF.head (.bool false) (.slice ad zd.length cd) (.int .i64 xd) ld
      replace HF := HF.fill3 (by omega) (by simp; omega) (.bool false) (.slice ad zd.length cd) (.int .i64 xd)
      refine Drawn.one (j := 8) (by kernel_rfl) rfl (fun K hK => ?_)
      go_simp
      refine hK _ _ (HF.sub (by simp)) ?_
      clear hK K f0 f1 f2 r0 r1 r2
      refine Drawn.done (by kernel_rfl) ?_
      try go_simp
      generalize hWf : (((W19.setCell ⟨g7, 0, none⟩ (.bool false)).setCell ⟨g7, 1, none⟩ (.slice ad zd.length cd)).setCell ⟨g7, 2, none⟩ (.int .i64 xd)) = Wf at *
      exact Rest g7 Wf nd zd xd ad cd nv zv xv av cv ⟨HF, ld, HD.out⟩
  case rest =>
  clear HF HI
  intro g7 W9 nd zd xd ad cd nv zv xv av cv h
  obtain ⟨BX, ld, Nd⟩ := h
  have HD := Hide.mk Nd
  clear Nd
  obtain ⟨⟨q0, q1, q2⟩, _⟩ := cells3 BX w.heap.size _ _ _ _ (show (w.heap.size, DO n a z.length c ex) ∈ _ by simp)
  obtain ⟨⟨f0, f1, f2⟩, _⟩ := cells3 BX g7 _ _ _ _ (show (g7, DO false ad zd.length cd xd) ∈ _ by simp)
  go_wp2_with fail
  replace BX := BX.push (.cells #[.int .u8 1, .int .u8 2] 23 (0, 0))
  replace ld := ld.below (below_alloc W9 (.cells #[.int .u8 1, .int .u8 2] 23 (0, 0))) (Nat.le_refl _)
  clear q0 q1 q2 f0 f1 f2
  generalize W9.heap.size = gs at *
  generalize W9.alloc (.cells #[.int .u8 1, .int .u8 2] 23 (0, 0)) = W8 at *
  obtain ⟨⟨q0, q1, q2⟩, _⟩ := cells3 BX w.heap.size _ _ _ _ (show (w.heap.size, DO n a z.length c ex) ∈ _ by simp)
  obtain ⟨⟨f0, f1, f2⟩, _⟩ := cells3 BX g7 _ _ _ _ (show (g7, DO false ad zd.length cd xd) ∈ _ by simp)
  have t0 : World.cell? _ ⟨gs, 0, none⟩ = some (.int .u8 1) := BX.cell gs _ _ (show (gs, Obj.cells #[.int .u8 1, .int .u8 2] 23 (0, 0)) ∈ _ by simp) 0
  have t1 : World.cell? _ ⟨gs, 1, none⟩ = some (.int .u8 2) := BX.cell gs _ _ (show (gs, Obj.cells #[.int .u8 1, .int .u8 2] 23 (0, 0)) ∈ _ by simp) 1
  refine wp_loop_rounds 3 ?_
  rw [rounds_succ]
  go_wp2_with fail
  refine ((HS _).out).mono ?_
  rintro e v19 ⟨rfl, hk⟩
  replace BX := BX.keep hk
  replace ld := ld.below hk (Nat.le_refl _)
  clear hk q0 q1 q2 f0 f1 f2 t0 t1
  obtain ⟨⟨q0, q1, q2⟩, _⟩ := cells3 BX w.heap.size _ _ _ _ (show (w.heap.size, DO n a z.length c ex) ∈ _ by simp)
  obtain ⟨⟨f0, f1, f2⟩, _⟩ := cells3 BX g7 _ _ _ _ (show (g7, DO false ad zd.length cd xd) ∈ _ by simp)
  have t0 : World.cell? _ ⟨gs, 0, none⟩ = some (.int .u8 1) := BX.cell gs _ _ (show (gs, Obj.cells #[.int .u8 1, .int .u8 2] 23 (0, 0)) ∈ _ by simp) 0
  have t1 : World.cell? _ ⟨gs, 1, none⟩ = some (.int .u8 2) := BX.cell gs _ _ (show (gs, Obj.cells #[.int .u8 1, .int .u8 2] 23 (0, 0)) ∈ _ by simp) 1
  go_wp2_with fail
  refine ((HR1 _ (u.below BX.bel).lie (hT.below BX.bel (Nat.le_refl _))).out).mono ?_
  rintro e v20 ⟨rfl, hk⟩
  replace BX := BX.keep hk
  replace ld := ld.below hk (Nat.le_refl _)
  clear hk q0 q1 q2 f0 f1 f2 t0 t1
  obtain ⟨⟨q0, q1, q2⟩, _⟩ := cells3 BX w.heap.size _ _ _ _ (show (w.heap.size, DO n a z.length c ex) ∈ _ by simp)
  obtain ⟨⟨f0, f1, f2⟩, _⟩ := cells3 BX g7 _ _ _ _ (show (g7, DO false ad zd.length cd xd) ∈ _ by simp)
  have t0 : World.cell? _ ⟨gs, 0, none⟩ = some (.int .u8 1) := BX.cell gs _ _ (show (gs, Obj.cells #[.int .u8 1, .int .u8 2] 23 (0, 0)) ∈ _ by simp) 0
  have t1 : World.cell? _ ⟨gs, 1, none⟩ = some (.int .u8 2) := BX.cell gs _ _ (show (gs, Obj.cells #[.int .u8 1, .int .u8 2] 23 (0, 0)) ∈ _ by simp) 1
  rcases HC1.out with hc1 | ⟨hc1, hV1, hf1, hd1⟩
  · go_wp2_with fail
    rw [rounds_succ]
    go_wp2_with fail
    refine ((HS _).out).mono ?_
    rintro e v21 ⟨rfl, hk⟩
    replace BX := BX.keep hk
    replace ld := ld.below hk (Nat.le_refl _)
    clear hk q0 q1 q2 f0 f1 f2 t0 t1
    obtain ⟨⟨q0, q1, q2⟩, _⟩ := cells3 BX w.heap.size _ _ _ _ (show (w.heap.size, DO n a z.length c ex) ∈ _ by simp)
    obtain ⟨⟨f0, f1, f2⟩, _⟩ := cells3 BX g7 _ _ _ _ (show (g7, DO false ad zd.length cd xd) ∈ _ by simp)
    have t0 : World.cell? _ ⟨gs, 0, none⟩ = some (.int .u8 1) := BX.cell gs _ _ (show (gs, Obj.cells #[.int .u8 1, .int .u8 2] 23 (0, 0)) ∈ _ by simp) 0
    have t1 : World.cell? _ ⟨gs, 1, none⟩ = some (.int .u8 2) := BX.cell gs _ _ (show (gs, Obj.cells #[.int .u8 1, .int .u8 2] 23 (0, 0)) ∈ _ by simp) 1
    go_wp2_with fail
    refine ((HR2 _ (u.below BX.bel).lie (hT.below BX.bel (Nat.le_refl _))).out).mono ?_
    rintro e v22 ⟨rfl, hk⟩
    replace BX := BX.keep hk
    replace ld := ld.below hk (Nat.le_refl _)
    clear hk q0 q1 q2 f0 f1 f2 t0 t1
    obtain ⟨⟨q0, q1, q2⟩, _⟩ := cells3 BX w.heap.size _ _ _ _ (show (w.heap.size, DO n a z.length c ex) ∈ _ by simp)
    obtain ⟨⟨f0, f1, f2⟩, _⟩ := cells3 BX g7 _ _ _ _ (show (g7, DO false ad zd.length cd xd) ∈ _ by simp)
    have t0 : World.cell? _ ⟨gs, 0, none⟩ = some (.int .u8 1) := BX.cell gs _ _ (show (gs, Obj.cells #[.int .u8 1, .int .u8 2] 23 (0, 0)) ∈ _ by simp) 0
    have t1 : World.cell? _ ⟨gs, 1, none⟩ = some (.int .u8 2) := BX.cell gs _ _ (show (gs, Obj.cells #[.int .u8 1, .int .u8 2] 23 (0, 0)) ∈ _ by simp) 1
    rcases HC2.out with hc2 | ⟨hc2, hV2, hf2, hd2⟩
    · go_wp2_with fail
      rw [rounds_succ]
      go_wp2_with fail
      refine (lKnown4 _ (hT.below BX.bel (Nat.le_refl _))).mono ?_
      rintro e v23 ⟨rfl, hk⟩
      replace BX := BX.keep hk
      replace ld := ld.below hk (Nat.le_refl _)
      clear hk q0 q1 q2 f0 f1 f2 t0 t1
      obtain ⟨⟨q0, q1, q2⟩, _⟩ := cells3 BX w.heap.size _ _ _ _ (show (w.heap.size, DO n a z.length c ex) ∈ _ by simp)
      obtain ⟨⟨f0, f1, f2⟩, _⟩ := cells3 BX g7 _ _ _ _ (show (g7, DO false ad zd.length cd xd) ∈ _ by simp)
      have t0 : World.cell? _ ⟨gs, 0, none⟩ = some (.int .u8 1) := BX.cell gs _ _ (show (gs, Obj.cells #[.int .u8 1, .int .u8 2] 23 (0, 0)) ∈ _ by simp) 0
      have t1 : World.cell? _ ⟨gs, 1, none⟩ = some (.int .u8 2) := BX.cell gs _ _ (show (gs, Obj.cells #[.int .u8 1, .int .u8 2] 23 (0, 0)) ∈ _ by simp) 1
      go_wp2
      go_ret
      exact ⟨by first | rfl | simp, BX.bel⟩
    · replace hd2 := Hide.mk hd2
      go_wp2_with fail
      clear q0 q1 q2 f0 f1 f2 t0 t1
      have HI := (BX.sub (L' := [(g7, DO false ad zd.length cd xd), (w.heap.size, DO n a z.length c ex), (gs, Obj.cells #[.int .u8 1, .int .u8 2] 23 (0, 0))]) (by simp)).drew
      have hdw := (Below.refl v22.heap.size v22).drew
      replace ld := ld.below hdw (Nat.le_refl _)
      clear BX hdw
      have sh := fun W (hW : Bx w ([(g7, DO false ad zd.length cd xd), (w.heap.size, DO n a z.length c ex), (gs, Obj.cells #[.int .u8 1, .int .u8 2] 23 (0, 0))]) W) => And.intro (cells3 hW g7 _ _ _ _ (.head _)).1 (cells3 hW w.heap.size _ _ _ _ (.tail _ (.head _))).1
      refine Drawn.enter (Bx w ([(g7, DO false ad zd.length cd xd), (w.heap.size, DO n a z.length c ex), (gs, Obj.cells #[.int .u8 1, .int .u8 2] 23 (0, 0))])) (by kernel_rfl) ?_
      refine Drawn.tk (i := 0) (v := ?v3) rfl (fun W hW => ?_) HI ?_
      rotate_left
      · have ⟨⟨f0, f1, f2⟩, q0, q1, q2⟩ := sh W hW
        go_simp <;> exact rfl
      refine Drawn.tk (i := 1) (v := ?v4) rfl (fun W hW => ?_) HI ?_
      rotate_left
      · have ⟨⟨f0, f1, f2⟩, q0, q1, q2⟩ := sh W hW
        go_simp <;> exact rfl
      refine Drawn.one (j := 2) (by kernel_rfl) rfl (fun K hK => ?_)
      go_simp
      refine (rFinite b V2 hV2 hf2 _).mono ?_
      rintro e wa ⟨rfl, hn⟩
      refine hK _ _ (HI.keep hn) ?_
      clear hK K
      replace HI := HI.keep hn
      replace ld := ld.below hn (Nat.le_refl _)
      clear hn
      refine Drawn.tk (i := 3) (v := ?v5) rfl (fun W hW => ?_) HI ?_
      rotate_left
      · have ⟨⟨f0, f1, f2⟩, q0, q1, q2⟩ := sh W hW
        go_simp <;> exact rfl
      refine Drawn.tk (i := 4) (v := ?v6) rfl (fun W hW => ?_) HI ?_
      rotate_left
      · have ⟨⟨f0, f1, f2⟩, q0, q1, q2⟩ := sh W hW
        go_simp <;> exact rfl
      refine Drawn.tk (i := 5) (v := ?v7) rfl (fun W hW => ?_) HI ?_
      rotate_left
      · have ⟨⟨f0, f1, f2⟩, q0, q1, q2⟩ := sh W hW
        go_simp <;> exact rfl
      refine Drawn.tk (i := 6) (v := ?v8) rfl (fun W hW => ?_) HI ?_
      rotate_left
      · have ⟨⟨f0, f1, f2⟩, q0, q1, q2⟩ := sh W hW
        go_simp <;> exact rfl
      refine Drawn.tk (i := 8) (v := ?v9) rfl (fun W hW => ?_) HI ?_
      rotate_left
      · have ⟨⟨f0, f1, f2⟩, q0, q1, q2⟩ := sh W hW
        go_simp <;> exact rfl
      refine Drawn.tk (i := 12) (v := ?v10) rfl (fun W hW => ?_) HI ?_
      rotate_left
      · have ⟨⟨f0, f1, f2⟩, q0, q1, q2⟩ := sh W hW
        go_simp <;> exact rfl
      refine Drawn.one (j := 7) (by kernel_rfl) rfl (fun K hK => ?_)
      go_simp
      refine (rValue b V2 hV2 _).mono ?_
      rintro e wb ⟨nv, zv, xv, av, cv, rfl, Nv, lv, hn⟩
      refine hK _ _ (HI.keep hn) ?_
      clear hK K
      have HV := Hide.mk Nv
      replace HI := HI.keep hn
      replace ld := ld.below hn (Nat.le_refl _)
      clear hn Nv
      refine Drawn.one (j := 9) (by kernel_rfl) rfl (fun K hK => ?_)
      go_simp
      refine (HS _).out.mono ?_
      rintro e wc ⟨rfl, hn⟩
      refine hK _ _ (HI.keep hn) ?_
      clear hK K
      replace HI := HI.keep hn
      replace ld := ld.below hn (Nat.le_refl _)
      replace lv := lv.below hn (Nat.le_refl _)
      clear hn
      refine Drawn.one (j := 10) (by kernel_rfl) rfl (fun K hK => ?_)
      go_simp
      refine (subD nv n av a cv c zv z xv x _ lv (u.below HI.bel).lie HV.out HN.out (DBv V2).out DBu.out hh1 hh2).mono ?_
      rintro e wd ⟨ne, ze, xe, ae, ce, rfl, Ne, le, hn⟩
      refine hK _ _ (HI.keep hn) ?_
      clear hK K
      have HE := Hide.mk Ne
      replace HI := HI.keep hn
      replace ld := ld.below hn (Nat.le_refl _)
      clear hn Ne lv HV
      refine Drawn.one (j := 11) (by kernel_rfl) rfl (fun K hK => ?_)
      go_simp
      refine (rAbsD ne ae ce ze.length xe _).mono ?_
      rintro e wf ⟨rfl, hn⟩
      refine hK _ _ (HI.keep hn) ?_
      clear hK K
      replace HI := HI.keep hn
      replace ld := ld.below hn (Nat.le_refl _)
      replace le := le.below hn (Nat.le_refl _)
      clear hn
      have HDD := Hide.mk (hd2.out _ _ _ _ _ _ HE.out HD.out)
      refine Drawn.one (j := 13) (by kernel_rfl) rfl (fun K hK => ?_)
      go_simp
      refine (cmpX false false ae ad ce cd ze zd xe xd _ le ld (abs_num HE.out) (abs_num HD.out) _ rfl).mono ?_
      rintro e wg ⟨rfl, hn⟩
      refine hK _ _ (HI.keep hn) ?_
      clear hK K
      replace HI := HI.keep hn
      replace ld := ld.below hn (Nat.le_refl _)
      clear hn le
      refine Drawn.tk (i := 14) (v := .bool false) rfl (fun W hW => ?_) HI ?_
      · have ⟨⟨f0, f1, f2⟩, q0, q1, q2⟩ := sh W hW
        go_simp <;> (simpa using HDD.out)
      refine Drawn.tk (i := 15) (v := ?v11) rfl (fun W hW => ?_) HI ?_
      rotate_left
      · have ⟨⟨f0, f1, f2⟩, q0, q1, q2⟩ := sh W hW
        go_simp <;> exact rfl
      refine Drawn.done (by kernel_rfl) ?_
      try go_simp
      have BX := HI
      clear HI sh HE HDD
      obtain ⟨⟨q0, q1, q2⟩, _⟩ := cells3 BX w.heap.size _ _ _ _ (show (w.heap.size, DO n a z.length c ex) ∈ _ by simp)
      obtain ⟨⟨f0, f1, f2⟩, _⟩ := cells3 BX g7 _ _ _ _ (show (g7, DO false ad zd.length cd xd) ∈ _ by simp)
      have t0 : World.cell? _ ⟨gs, 0, none⟩ = some (.int .u8 1) := BX.cell gs _ _ (show (gs, Obj.cells #[.int .u8 1, .int .u8 2] 23 (0, 0)) ∈ _ by simp) 0
      have t1 : World.cell? _ ⟨gs, 1, none⟩ = some (.int .u8 2) := BX.cell gs _ _ (show (gs, Obj.cells #[.int .u8 1, .int .u8 2] 23 (0, 0)) ∈ _ by simp) 1
      go_wp2_with fail
      rw [rounds_succ]
      go_wp2_with fail
      refine (lKnown4 _ (hT.below BX.bel (Nat.le_refl _))).mono ?_
      rintro e v24 ⟨rfl, hk⟩
      replace BX := BX.keep hk
      replace ld := ld.below hk (Nat.le_refl _)
      clear hk q0 q1 q2 f0 f1 f2 t0 t1
      obtain ⟨⟨q0, q1, q2⟩, _⟩ := cells3 BX w.heap.size _ _ _ _ (show (w.heap.size, DO n a z.length c ex) ∈ _ by simp)
      obtain ⟨⟨f0, f1, f2⟩, _⟩ := cells3 BX g7 _ _ _ _ (show (g7, DO false ad zd.length cd xd) ∈ _ by simp)
      have t0 : World.cell? _ ⟨gs, 0, none⟩ = some (.int .u8 1) := BX.cell gs _ _ (show (gs, Obj.cells #[.int .u8 1, .int .u8 2] 23 (0, 0)) ∈ _ by simp) 0
      have t1 : World.cell? _ ⟨gs, 1, none⟩ = some (.int .u8 2) := BX.cell gs _ _ (show (gs, Obj.cells #[.int .u8 1, .int .u8 2] 23 (0, 0)) ∈ _ by simp) 1
      go_wp2
      go_ret
      exact ⟨by first | rfl | simp, BX.bel⟩
  · replace hd1 := Hide.mk hd1
    go_wp2_with fail
    clear q0 q1 q2 f0 f1 f2 t0 t1
    have HI := (BX.sub (L' := [(g7, DO false ad zd.length cd xd), (w.heap.size, DO n a z.length c ex), (gs, Obj.cells #[.int .u8 1, .int .u8 2] 23 (0, 0))]) (by simp)).drew
    have hdw := (Below.refl v20.heap.size v20).drew
    replace ld := ld.below hdw (Nat.le_refl _)
    clear BX hdw
    have sh := fun W (hW : Bx w ([(g7, DO false ad zd.length cd xd), (w.heap.size, DO n a z.length c ex), (gs, Obj.cells #[.int .u8 1, .int .u8 2] 23 (0, 0))]) W) => And.intro (cells3 hW g7 _ _ _ _ (.head _)).1 (cells3 hW w.heap.size _ _ _ _ (.tail _ (.head _))).1
    refine Drawn.enter (Bx w ([(g7, DO false ad zd.length cd xd), (w.heap.size, DO n a z.length c ex), (gs, Obj.cells #[.int .u8 1, .int .u8 2] 23 (0, 0))])) (by kernel_rfl) ?_
    refine Drawn.tk (i := 0) (v := ?v12) rfl (fun W hW => ?_) HI ?_
    rotate_left
    · have ⟨⟨f0, f1, f2⟩, q0, q1, q2⟩ := sh W hW
      go_simp <;> exact rfl
    refine Drawn.tk (i := 1) (v := ?v13) rfl (fun W hW => ?_) HI ?_
    rotate_left
    · have ⟨⟨f0, f1, f2⟩, q0, q1, q2⟩ := sh W hW
      go_simp <;> exact rfl
    refine Drawn.one (j := 2) (by kernel_rfl) rfl (fun K hK => ?_)
    go_simp
    refine (rFinite b V1 hV1 hf1 _).mono ?_
    rintro e wa ⟨rfl, hn⟩
    refine hK _ _ (HI.keep hn) ?_
    clear hK K
    replace HI := HI.keep hn
    replace ld := ld.below hn (Nat.le_refl _)
    clear hn
    refine Drawn.tk (i := 3) (v := ?v14) rfl (fun W hW => ?_) HI ?_
    rotate_left
    · have ⟨⟨f0, f1, f2⟩, q0, q1, q2⟩ := sh W hW
      go_simp <;> exact rfl
    refine Drawn.tk (i := 4) (v := ?v15) rfl (fun W hW => ?_) HI ?_
    rotate_left
    · have ⟨⟨f0, f1, f2⟩, q0, q1, q2⟩ := sh W hW
      go_simp <;> exact rfl
    refine Drawn.tk (i := 5) (v := ?v16) rfl (fun W hW => ?_) HI ?_
    rotate_left
    · have ⟨⟨f0, f1, f2⟩, q0, q1, q2⟩ := sh W hW
      go_simp <;> exact rfl
    refine Drawn.tk (i := 6) (v := ?v17) rfl (fun W hW => ?_) HI ?_
    rotate_left
    · have ⟨⟨f0, f1, f2⟩, q0, q1, q2⟩ := sh W hW
      go_simp <;> exact rfl
    refine Drawn.tk (i := 8) (v := ?v18) rfl (fun W hW => ?_) HI ?_
    rotate_left
    · have ⟨⟨f0, f1, f2⟩, q0, q1, q2⟩ := sh W hW
      go_simp <;> exact rfl
    refine Drawn.tk (i := 12) (v := ?v19) rfl (fun W hW => ?_) HI ?_
    rotate_left
    · have ⟨⟨f0, f1, f2⟩, q0, q1, q2⟩ := sh W hW
      go_simp <;> exact rfl
    refine Drawn.one (j := 7) (by kernel_rfl) rfl (fun K hK => ?_)
    go_simp
    refine (rValue b V1 hV1 _).mono ?_
    rintro e wb ⟨nv, zv, xv, av, cv, rfl, Nv, lv, hn⟩
    refine hK _ _ (HI.keep hn) ?_
    clear hK K
    have HV := Hide.mk Nv
    replace HI := HI.keep hn
    replace ld := ld.below hn (Nat.le_refl _)
    clear hn Nv
    refine Drawn.one (j := 9) (by kernel_rfl) rfl (fun K hK => ?_)
    go_simp
    refine (HS _).out.mono ?_
    rintro e wc ⟨rfl, hn⟩
    refine hK _ _ (HI.keep hn) ?_
    clear hK K
    replace HI := HI.keep hn
    replace ld := ld.below hn (Nat.le_refl _)
    replace lv := lv.below hn (Nat.le_refl _)
    clear hn
    refine Drawn.one (j := 10) (by kernel_rfl) rfl (fun K hK => ?_)
    go_simp
    refine (subD nv n av a cv c zv z xv x _ lv (u.below HI.bel).lie HV.out HN.out (DBv V1).out DBu.out hh1 hh2).mono ?_
    rintro e wd ⟨ne, ze, xe, ae, ce, rfl, Ne, le, hn⟩
    refine hK _ _ (HI.keep hn) ?_
    clear hK K
    have HE := Hide.mk Ne
    replace HI := HI.keep hn
    replace ld := ld.below hn (Nat.le_refl _)
    clear hn Ne lv HV
    refine Drawn.one (j := 11) (by kernel_rfl) rfl (fun K hK => ?_)
    go_simp
    refine (rAbsD ne ae ce ze.length xe _).mono ?_
    rintro e wf ⟨rfl, hn⟩
    refine hK _ _ (HI.keep hn) ?_
    clear hK K
    replace HI := HI.keep hn
    replace ld := ld.below hn (Nat.le_refl _)
    replace le := le.below hn (Nat.le_refl _)
    clear hn
    have HDD := Hide.mk (hd1.out _ _ _ _ _ _ HE.out HD.out)
    refine Drawn.one (j := 13) (by kernel_rfl) rfl (fun K hK => ?_)
    go_simp
    refine (cmpX false false ae ad ce cd ze zd xe xd _ le ld (abs_num HE.out) (abs_num HD.out) _ rfl).mono ?_
    rintro e wg ⟨rfl, hn⟩
    refine hK _ _ (HI.keep hn) ?_
    clear hK K
    replace HI := HI.keep hn
    replace ld := ld.below hn (Nat.le_refl _)
    clear hn le
    refine Drawn.tk (i := 14) (v := .bool false) rfl (fun W hW => ?_) HI ?_
    · have ⟨⟨f0, f1, f2⟩, q0, q1, q2⟩ := sh W hW
      go_simp <;> (simpa using HDD.out)
    refine Drawn.tk (i := 15) (v := ?v20) rfl (fun W hW => ?_) HI ?_
    rotate_left
    · have ⟨⟨f0, f1, f2⟩, q0, q1, q2⟩ := sh W hW
      go_simp <;> exact rfl
    refine Drawn.done (by kernel_rfl) ?_
    try go_simp
    have BX := HI
    clear HI sh HE HDD
    obtain ⟨⟨q0, q1, q2⟩, _⟩ := cells3 BX w.heap.size _ _ _ _ (show (w.heap.size, DO n a z.length c ex) ∈ _ by simp)
    obtain ⟨⟨f0, f1, f2⟩, _⟩ := cells3 BX g7 _ _ _ _ (show (g7, DO false ad zd.length cd xd) ∈ _ by simp)
    have t0 : World.cell? _ ⟨gs, 0, none⟩ = some (.int .u8 1) := BX.cell gs _ _ (show (gs, Obj.cells #[.int .u8 1, .int .u8 2] 23 (0, 0)) ∈ _ by simp) 0
    have t1 : World.cell? _ ⟨gs, 1, none⟩ = some (.int .u8 2) := BX.cell gs _ _ (show (gs, Obj.cells #[.int .u8 1, .int .u8 2] 23 (0, 0)) ∈ _ by simp) 1
    go_wp2_with fail
    rw [rounds_succ]
    go_wp2_with fail
    refine ((HS _).out).mono ?_
    rintro e v25 ⟨rfl, hk⟩
    replace BX := BX.keep hk
    replace ld := ld.below hk (Nat.le_refl _)
    clear hk q0 q1 q2 f0 f1 f2 t0 t1
    obtain ⟨⟨q0, q1, q2⟩, _⟩ := cells3 BX w.heap.size _ _ _ _ (show (w.heap.size, DO n a z.length c ex) ∈ _ by simp)
    obtain ⟨⟨f0, f1, f2⟩, _⟩ := cells3 BX g7 _ _ _ _ (show (g7, DO false ad zd.length cd xd) ∈ _ by simp)
    have t0 : World.cell? _ ⟨gs, 0, none⟩ = some (.int .u8 1) := BX.cell gs _ _ (show (gs, Obj.cells #[.int .u8 1, .int .u8 2] 23 (0, 0)) ∈ _ by simp) 0
    have t1 : World.cell? _ ⟨gs, 1, none⟩ = some (.int .u8 2) := BX.cell gs _ _ (show (gs, Obj.cells #[.int .u8 1, .int .u8 2] 23 (0, 0)) ∈ _ by simp) 1
    go_wp2_with fail
    refine ((HR2 _ (u.below BX.bel).lie (hT.below BX.bel (Nat.le_refl _))).out).mono ?_
    rintro e v26 ⟨rfl, hk⟩
    replace BX := BX.keep hk
    replace ld := ld.below hk (Nat.le_refl _)
    clear hk q0 q1 q2 f0 f1 f2 t0 t1
    obtain ⟨⟨q0, q1, q2⟩, _⟩ := cells3 BX w.heap.size _ _ _ _ (show (w.heap.size, DO n a z.length c ex) ∈ _ by simp)
    obtain ⟨⟨f0, f1, f2⟩, _⟩ := cells3 BX g7 _ _ _ _ (show (g7, DO false ad zd.length cd xd) ∈ _ by simp)
    have t0 : World.cell? _ ⟨gs, 0, none⟩ = some (.int .u8 1) := BX.cell gs _ _ (show (gs, Obj.cells #[.int .u8 1, .int .u8 2] 23 (0, 0)) ∈ _ by simp) 0
    have t1 : World.cell? _ ⟨gs, 1, none⟩ = some (.int .u8 2) := BX.cell gs _ _ (show (gs, Obj.cells #[.int .u8 1, .int .u8 2] 23 (0, 0)) ∈ _ by simp) 1
    rcases HC2.out with hc2 | ⟨hc2, hV2, hf2, hd2⟩
    · go_wp2_with fail
      rw [rounds_succ]
      go_wp2_with fail
      refine (lKnown4 _ (hT.below BX.bel (Nat.le_refl _))).mono ?_
      rintro e v27 ⟨rfl, hk⟩
      replace BX := BX.keep hk
      replace ld := ld.below hk (Nat.le_refl _)
      clear hk q0 q1 q2 f0 f1 f2 t0 t1
      obtain ⟨⟨q0, q1, q2⟩, _⟩ := cells3 BX w.heap.size _ _ _ _ (show (w.heap.size, DO n a z.length c ex) ∈ _ by simp)
      obtain ⟨⟨f0, f1, f2⟩, _⟩ := cells3 BX g7 _ _ _ _ (show (g7, DO false ad zd.length cd xd) ∈ _ by simp)
      have t0 : World.cell? _ ⟨gs, 0, none⟩ = some (.int .u8 1) := BX.cell gs _ _ (show (gs, Obj.cells #[.int .u8 1, .int .u8 2] 23 (0, 0)) ∈ _ by simp) 0
      have t1 : World.cell? _ ⟨gs, 1, none⟩ = some (.int .u8 2) := BX.cell gs _ _ (show (gs, Obj.cells #[.int .u8 1, .int .u8 2] 23 (0, 0)) ∈ _ by simp) 1
      go_wp2
      go_ret
      exact ⟨by first | rfl | simp, BX.bel⟩
    · replace hd2 := Hide.mk hd2
      go_wp2_with fail
      clear q0 q1 q2 f0 f1 f2 t0 t1
      have HI := (BX.sub (L' := [(g7, DO false ad zd.length cd xd), (w.heap.size, DO n a z.length c ex), (gs, Obj.cells #[.int .u8 1, .int .u8 2] 23 (0, 0))]) (by simp)).drew
      have hdw := (Below.refl v26.heap.size v26).drew
      replace ld := ld.below hdw (Nat.le_refl _)
      clear BX hdw
      have sh := fun W (hW : Bx w ([(g7, DO false ad zd.length cd xd), (w.heap.size, DO n a z.length c ex), (gs, Obj.cells #[.int .u8 1, .int .u8 2] 23 (0, 0))]) W) => And.intro (cells3 hW g7 _ _ _ _ (.head _)).1 (cells3 hW w.heap.size _ _ _ _ (.tail _ (.head _))).1
      refine Drawn.enter (Bx w ([(g7, DO false ad zd.length cd xd), (w.heap.size, DO n a z.length c ex), (gs, Obj.cells #[.int .u8 1, .int .u8 2] 23 (0, 0))])) (by kernel_rfl) ?_
      refine Drawn.tk (i := 0) (v := ?v21) rfl (fun W hW => ?_) HI ?_
      rotate_left
      · have ⟨⟨f0, f1, f2⟩, q0, q1, q2⟩ := sh W hW
        go_simp <;> exact rfl
      refine Drawn.tk (i := 1) (v := ?v22) rfl (fun W hW => ?_) HI ?_
      rotate_left
      · have ⟨⟨f0, f1, f2⟩, q0, q1, q2⟩ := sh W hW
        go_simp <;> exact rfl
      refine Drawn.one (j := 2) (by kernel_rfl) rfl (fun K hK => ?_)
      go_simp
      refine (rFinite b V2 hV2 hf2 _).mono ?_
      rintro e wa ⟨rfl, hn⟩
      refine hK _ _ (HI.keep hn) ?_
      clear hK K
      replace HI := HI.keep hn
      replace ld := ld.below hn (Nat.le_refl _)
      clear hn
      refine Drawn.tk (i := 3) (v := ?v23) rfl (fun W hW => ?_) HI ?_
      rotate_left
      · have ⟨⟨f0, f1, f2⟩, q0, q1, q2⟩ := sh W hW
        go_simp <;> exact rfl
      refine Drawn.tk (i := 4) (v := ?v24) rfl (fun W hW => ?_) HI ?_
      rotate_left
      · have ⟨⟨f0, f1, f2⟩, q0, q1, q2⟩ := sh W hW
        go_simp <;> exact rfl
      refine Drawn.tk (i := 5) (v := ?v25) rfl (fun W hW => ?_) HI ?_
      rotate_left
      · have ⟨⟨f0, f1, f2⟩, q0, q1, q2⟩ := sh W hW
        go_simp <;> exact rfl
      refine Drawn.tk (i := 6) (v := ?v26) rfl (fun W hW => ?_) HI ?_
      rotate_left
      · have ⟨⟨f0, f1, f2⟩, q0, q1, q2⟩ := sh W hW
        go_simp <;> exact rfl
      refine Drawn.tk (i := 8) (v := ?v27) rfl (fun W hW => ?_) HI ?_
      rotate_left
      · have ⟨⟨f0, f1, f2⟩, q0, q1, q2⟩ := sh W hW
        go_simp <;> exact rfl
      refine Drawn.tk (i := 12) (v := ?v28) rfl (fun W hW => ?_) HI ?_
      rotate_left
      · have ⟨⟨f0, f1, f2⟩, q0, q1, q2⟩ := sh W hW
        go_simp <;> exact rfl
      refine Drawn.one (j := 7) (by kernel_rfl) rfl (fun K hK => ?_)
      go_simp
      refine (rValue b V2 hV2 _).mono ?_
      rintro e wb ⟨nv, zv, xv, av, cv, rfl, Nv, lv, hn⟩
      refine hK _ _ (HI.keep hn) ?_
      clear hK K
      have HV := Hide.mk Nv
      replace HI := HI.keep hn
      replace ld := ld.below hn (Nat.le_refl _)
      clear hn Nv
      refine Drawn.one (j := 9) (by kernel_rfl) rfl (fun K hK => ?_)
      go_simp
      refine (HS _).out.mono ?_
      rintro e wc ⟨rfl, hn⟩
      refine hK _ _ (HI.keep hn) ?_
      clear hK K
      replace HI := HI.keep hn
      replace ld := ld.below hn (Nat.le_refl _)
      replace lv := lv.below hn (Nat.le_refl _)
      clear hn
      refine Drawn.one (j := 10) (by kernel_rfl) rfl (fun K hK => ?_)
      go_simp
      refine (subD nv n av a cv c zv z xv x _ lv (u.below HI.bel).lie HV.out HN.out (DBv V2).out DBu.out hh1 hh2).mono ?_
      rintro e wd ⟨ne, ze, xe, ae, ce, rfl, Ne, le, hn⟩
      refine hK _ _ (HI.keep hn) ?_
      clear hK K
      have HE := Hide.mk Ne
      replace HI := HI.keep hn
      replace ld := ld.below hn (Nat.le_refl _)
      clear hn Ne lv HV
      refine Drawn.one (j := 11) (by kernel_rfl) rfl (fun K hK => ?_)
      go_simp
      refine (rAbsD ne ae ce ze.length xe _).mono ?_
      rintro e wf ⟨rfl, hn⟩
      refine hK _ _ (HI.keep hn) ?_
      clear hK K
      replace HI := HI.keep hn
      replace ld := ld.below hn (Nat.le_refl _)
      replace le := le.below hn (Nat.le_refl _)
      clear hn
      have HDD := Hide.mk (hd2.out _ _ _ _ _ _ HE.out HD.out)
      refine Drawn.one (j := 13) (by kernel_rfl) rfl (fun K hK => ?_)
      go_simp
      refine (cmpX false false ae ad ce cd ze zd xe xd _ le ld (abs_num HE.out) (abs_num HD.out) _ rfl).mono ?_
      rintro e wg ⟨rfl, hn⟩
      refine hK _ _ (HI.keep hn) ?_
      clear hK K
      replace HI := HI.keep hn
      replace ld := ld.below hn (Nat.le_refl _)
      clear hn le
      refine Drawn.tk (i := 14) (v := .bool false) rfl (fun W hW => ?_) HI ?_
      · have ⟨⟨f0, f1, f2⟩, q0, q1, q2⟩ := sh W hW
        go_simp <;> (simpa using HDD.out)
      refine Drawn.tk (i := 15) (v := ?v29) rfl (fun W hW => ?_) HI ?_
      rotate_left
      · have ⟨⟨f0, f1, f2⟩, q0, q1, q2⟩ := sh W hW
        go_simp <;> exact rfl
      refine Drawn.done (by kernel_rfl) ?_
      try go_simp
      have BX := HI
      clear HI sh HE HDD
      obtain ⟨⟨q0, q1, q2⟩, _⟩ := cells3 BX w.heap.size _ _ _ _ (show (w.heap.size, DO n a z.length c ex) ∈ _ by simp)
      obtain ⟨⟨f0, f1, f2⟩, _⟩ := cells3 BX g7 _ _ _ _ (show (g7, DO false ad zd.length cd xd) ∈ _ by simp)
      have t0 : World.cell? _ ⟨gs, 0, none⟩ = some (.int .u8 1) := BX.cell gs _ _ (show (gs, Obj.cells #[.int .u8 1, .int .u8 2] 23 (0, 0)) ∈ _ by simp) 0
      have t1 : World.cell? _ ⟨gs, 1, none⟩ = some (.int .u8 2) := BX.cell gs _ _ (show (gs, Obj.cells #[.int .u8 1, .int .u8 2] 23 (0, 0)) ∈ _ by simp) 1
      go_wp2_with fail
      rw [rounds_succ]
      go_wp2_with fail
      refine (lKnown4 _ (hT.below BX.bel (Nat.le_refl _))).mono ?_
      rintro e v28 ⟨rfl, hk⟩
      replace BX := BX.keep hk
      replace ld := ld.below hk (Nat.le_refl _)
      clear hk q0 q1 q2 f0 f1 f2 t0 t1
      obtain ⟨⟨q0, q1, q2⟩, _⟩ := cells3 BX w.heap.size _ _ _ _ (show (w.heap.size, DO n a z.length c ex) ∈ _ by simp)
      obtain ⟨⟨f0, f1, f2⟩, _⟩ := cells3 BX g7 _ _ _ _ (show (g7, DO false ad zd.length cd xd) ∈ _ by simp)
      have t0 : World.cell? _ ⟨gs, 0, none⟩ = some (.int .u8 1) := BX.cell gs _ _ (show (gs, Obj.cells #[.int .u8 1, .int .u8 2] 23 (0, 0)) ∈ _ by simp) 0
      have t1 : World.cell? _ ⟨gs, 1, none⟩ = some (.int .u8 2) := BX.cell gs _ _ (show (gs, Obj.cells #[.int .u8 1, .int .u8 2] 23 (0, 0)) ∈ _ by simp) 1
      go_wp2
      go_ret
      exact ⟨by first | rfl | simp, BX.bel⟩
end Go.Proofs.YtdnghibkagcbcaaGreatDoor

namespace Go.Proofs.YtdnghibkagcbcaaGreatDoor
open Go.RowKit Go.Wd Go.Box
set_option linter.unusedVariables false
set_option maxRecDepth 3000
theorem abs_is {n : Bool} {z : List Int} {e u : Int} (N : DN n z e u) : Nt.val z * pK e = (u.natAbs : Int) := by
  have h0 := Int.mul_nonneg (Nt.val_bd N.dg.can.1).1 (Int.le_of_lt (pK_pos e))
  have hv := N.val
  unfold dv at hv
  cases n
  · rw [sv_f] at hv; omega
  · rw [sv_t, Int.neg_mul] at hv; omega
/-- No size's value is nearer than the one that is taken. -/
theorem near {b : Bool} {M F p : Int} (S : Sits b M F p) {m : Int} (hm : m = 1 ∨ m = 2) (n k : Bool) {t : Int} (ht : 0 ≤ t) :
    ((sv n (vz b (tkf m n F p)) - sv n M).natAbs : Int) ≤ ((sv k (vz b t) - sv n M).natAbs : Int) := by
  have h0 := S.nn
  have h1 := S.le
  have h2 := S.lt
  have hc := S.cs
  have z0 := vz_nonneg b h0
  have zt := vz_nonneg b ht
  have far : M - vz b F ≤ M := by omega
  have hk : ∀ q : Int, (q = M - vz b F ∨ q = vz b (F + 1) - M) → q ≤ M - vz b F → q ≤ vz b (F + 1) - M → q ≤ ((sv k (vz b t) - sv n M).natAbs : Int) := by
    intro q _ q1 q2
    by_cases e : k = n
    · subst e
      have : t ≤ F ∨ F + 1 ≤ t := by omega
      rcases this with c | c
      · have := vz_mono b ht c
        cases k <;> simp only [sv_f, sv_t] <;> omega
      · have := vz_mono b (s := F + 1) (by omega) c
        cases k <;> simp only [sv_f, sv_t] <;> omega
    · cases k <;> cases n <;> simp at e <;> simp only [sv_f, sv_t] <;> omega
  have lo : tkf m n F p = F → ((sv n (vz b (tkf m n F p)) - sv n M).natAbs : Int) = M - vz b F := by
    intro e
    rw [e]
    cases n <;> simp only [sv_f, sv_t] <;> omega
  have up : tkf m n F p = F + 1 → ((sv n (vz b (tkf m n F p)) - sv n M).natAbs : Int) = vz b (F + 1) - M := by
    intro e
    rw [e]
    cases n <;> simp only [sv_f, sv_t] <;> omega
  rcases hc with ⟨rfl, hc⟩ | ⟨rfl, hc, hd⟩ | ⟨rfl, hc, hd⟩ | ⟨rfl, hc, hd⟩
  · rw [lo (by unfold tkf; simp)]
    exact hk _ (.inl rfl) (by omega) (by omega)
  · have : tkf m n F 1 = F := by
      unfold tkf
      rcases hm with rfl | rfl <;> simp [outw]
    rw [lo this]
    exact hk _ (.inl rfl) (by omega) (by omega)
  · rcases (show tkf m n F 2 = F ∨ tkf m n F 2 = F + 1 by have := tkf_bd m n F 2; omega) with e | e
    · rw [lo e]; exact hk _ (.inl rfl) (by omega) (by omega)
    · rw [up e]; exact hk _ (.inr rfl) (by omega) (by omega)
  · have : tkf m n F 3 = F + 1 := by
      unfold tkf
      rcases hm with rfl | rfl <;> simp [outw]
    rw [up this]
    exact hk _ (.inr rfl) (by omega) (by omega)
theorem db_ofN {s E : Int} {b n : Nat} (hn : (n : Int) = E + KK) (h1 : -(2 ^ b) < s) (h2 : s < 2 ^ b) : DB n (n + b) (s * pK E) := by
  have e : pK E = 2 ^ n := by unfold pK; congr 1; omega
  have hp := p2pos n
  rw [e]
  refine ⟨Int.mul_emod_left _ _, ?_, ?_⟩
  · rw [Int.pow_add, Int.mul_comm (2 ^ n)]
    have := Int.mul_lt_mul_of_pos_right h1 hp
    rw [Int.neg_mul] at this; exact this
  · rw [Int.pow_add, Int.mul_comm (2 ^ n)]
    exact Int.mul_lt_mul_of_pos_right h2 hp
theorem small_db {n : Bool} {z : List Int} {x : Int} (g : DG n z x) (hl : z.length ≤ 300) (h1 : -1200 < x) (h2 : x < 1200) : DB (KK - 1200) (KK + 11000) (dv n z x) := by
  have h9 : Nt.val z < 4294967296 ^ z.length := (Nt.can_len g.can z.length).2 (Nat.le_refl _)
  rw [show (4294967296 : Int) = 2 ^ 32 from rfl, ← Int.pow_mul] at h9
  have h8 := p2le (show 32 * z.length ≤ 9600 by omega)
  have h0 := (Nt.val_bd g.can.1).1
  have hK := KK_eq
  have h3 : -(2 ^ 9600) < sv n (Nt.val z) ∧ sv n (Nt.val z) < 2 ^ 9600 := by
    generalize (2 : Int) ^ 9600 = P at *
    cases n
    · rw [sv_f]; omega
    · rw [sv_t]; omega
  have := db_ofN (E := x) (n := (x + KK).toNat) (by omega) h3.1 h3.2
  exact this.mono (by omega) (by omega)
/-- RoundNearest, whatever it is called with. -/
theorem rn_any (f : Int) (n : Bool) (a : Option Addr) (c : Nat) (z : List Int) (ex y : Int) (w : World) (u : DLie w a z) (hT : Tab w) (hy0 : 0 ≤ y) (hy1 : y < 18446744073709551616) :
    Calls Tryz.prog 7 #[.int .u8 f, dV n a z.length c ex, .int .u64 y] w fun e w' => e = .returned (.bool true) ∧ Below w.heap.size w w' := by
  by_cases hl : (300 : Int) < (z.length : Int)
  · exact rn_long n a c z ex y f hl w u hT
  · have hl2 : (z.length : Int) ≤ 300 := by omega
    rcases fm_or_bad f with ⟨b, rfl⟩ | hf
    · have m1 : Mode 1 := .inl rfl
      have m2 : Mode 2 := .inr (.inl rfl)
      cases hq : dmayB n z ex with
      | false => exact rn_open n a c z ex y (fm b) _ rfl (fun W g h1 h2 => lOpens1_no b 1 m1 g n a c z ex W h1 hq h2) hl2 w u hT
      | true =>
        have KO : ∀ W g, DLie W a z → At3 W g 0 n a z.length c ex → Calls Tryz.prog 16 #[.int .u8 (fm b), .int .u8 1, .slice (some ⟨g, 0, none⟩) 1 1] W fun e w' => e = .returned (.int .i64 0) ∧ Below W.heap.size W w' := fun W g h1 h2 => lOpens1 b 1 m1 g n a c z ex W h1 hq h2
        by_cases hy : Ok b y
        · by_cases hfy : sz b y < inf b
          · obtain ⟨x, g, hx1, hx2, KS⟩ := small_any (DG.of u.rng hq)
            have du := small_db g (by omega) hx1 hx2
            have N : DN n z x (dv n z x) := ⟨g, rfl⟩
            have hsy := (sz_bd b y).1
            have hyv := wv_vz b y
            have key : ∀ m, (m = 1 ∨ m = 2) → Mode m → ∃ X V, (∀ W, Lie W a z → Tab W → Calls Tryz.prog 14 #[.int .u8 (fm b), .int .u8 m, dV n a z.length c x] W fun e w' => e = .returned (.tuple #[.int .u64 V, .int .u8 X, .int .i64 0]) ∧ Below W.heap.size W w') ∧
                Hide ((0 < bits BinOp.and IntKind.u8 X 4) ∨ (bits BinOp.and IntKind.u8 X 4 ≤ 0 ∧ Ok b V ∧ sz b V < inf b ∧ (∀ n1 z1 e1 n2 z2 e2, DN n1 z1 e1 (wv b V - dv n z x) → DN n2 z2 e2 (wv b y - dv n z x) → ¬ 0 < sgn (Nt.val z1 * pK e1) (Nt.val z2 * pK e2)))) := by
              intro m hmm hm
              have fin : ∀ V, ((wv b V - dv n z x).natAbs : Int) ≤ ((wv b y - dv n z x).natAbs : Int) → (∀ n1 z1 e1 n2 z2 e2, DN n1 z1 e1 (wv b V - dv n z x) → DN n2 z2 e2 (wv b y - dv n z x) → ¬ 0 < sgn (Nt.val z1 * pK e1) (Nt.val z2 * pK e2)) := by
                intro V hV n1 z1 e1 n2 z2 e2 N1 N2
                rw [abs_is N1, abs_is N2]
                unfold sgn
                split
                · omega
                · split <;> omega
              by_cases hz : 0 < z.length
              · obtain ⟨B, hB, hB2⟩ := val_bits g
                have hp := g.pos hz
                have hxb := g.ex_bd
                have hK := KK_int
                obtain ⟨F, p, S, hW, hX⟩ := rd_sits b hp hB (ex := x) (by omega)
                have nn := S.nn
                have tb := tkf_bd m n F p
                have hi := inf_lt b
                have hsp := sg_pos b
                obtain ⟨x1, x2, x3⟩ := hX m n (qf (Nt.val z) 1 (x + 1 - (B + x - pr b))) (qg (Nt.val z) 1 (x + 1 - (B + x - pr b)))
                refine ⟨rdX b m n (B + x) (qf (Nt.val z) 1 (x + 1 - ulp b (B + x))) (qg (Nt.val z) 1 (x + 1 - ulp b (B + x))) (qf (Nt.val z) 1 (x + 1 - (B + x - pr b))) (qg (Nt.val z) 1 (x + 1 - (B + x - pr b))), sd b (wcap b m n (tkf m n F p)) n, fun W l hTW => ?_, ⟨?_⟩⟩
                · have := pRound b m hm n a c z x (B + x) W l g hz hTW hB hB2 rfl rfl rfl rfl rfl
                  rw [hW m n] at this
                  exact this
                · by_cases o : inf b ≤ tkf m n F p
                  · left
                    rw [x1 o]
                    decide
                  · right
                    have hk : wcap b m n (tkf m n F p) = tkf m n F p := by unfold wcap; rw [if_neg o]
                    have hwv := wv_sd b (s := tkf m n F p) (by omega) (by omega) n
                    have hsz : sz b (sd b (tkf m n F p) n) = tkf m n F p := by
                      unfold sz sd
                      cases n
                      · rw [if_neg (by decide)]; exact Int.emod_eq_of_lt (by omega) (by omega)
                      · rw [if_pos rfl, Int.add_emod_right]; exact Int.emod_eq_of_lt (by omega) (by omega)
                    rw [hk]
                    refine ⟨?_, sd_ok b n (by omega) (by omega), by rw [hsz]; omega, fin _ ?_⟩
                    · by_cases o2 : p = 0
                      · rw [x2 (by omega) o2]; decide
                      · rcases x3 (by omega) o2 with h | h <;> rw [h] <;> decide
                    · have hd : dv n z x = sv n (Nt.val z * pK x) := by unfold dv; cases n <;> simp only [sv_t, sv_f, Int.neg_mul]
                      rw [hwv, hd, hyv]
                      exact near S hmm n (ng b y) hsy
              · obtain ⟨h1, h2, h3⟩ := g.nil (by omega)
                refine ⟨0, 0, fun W l hTW => pRound_zeroG b m hm n a c z x W ⟨h1, h2, h3⟩, ⟨.inr ⟨by decide, ⟨by omega, by have := sg_pos b; omega⟩, by cases b <;> decide, fin _ ?_⟩⟩⟩
                have hd : dv n z x = 0 := by rw [h1]; exact zero_dv _ _
                have h0 : wv b 0 = 0 := by
                  rw [wv_vz, show sz b 0 = 0 by cases b <;> rfl, vz_zero]; cases ng b 0 <;> rfl
                rw [hd, h0]
                simp
            obtain ⟨X1, V1, P1, C1⟩ := key 1 (.inl rfl) m1
            obtain ⟨X2, V2, P2, C2⟩ := key 2 (.inr rfl) m2
            exact rn_main n a c z ex y b KO hy hfy x _ (KS a c) N du X1 V1 P1 C1 X2 V2 P2 C2 hl2 w u hT
          · exact rn_inf n a c z ex y b KO hy (by omega) hl2 w u hT
        · exact rn_word n a c z ex y b KO 6 rfl (.inr ⟨b, rfl, by unfold Ok at hy; omega, rfl⟩) hy1 hl2 w u hT
    · exact rn_open n a c z ex y f 4 rfl (fun W g _ _ => lOpens_bad f 1 4 _ (.inl ⟨hf, rfl⟩) rfl W) hl2 w u hT
end Go.Proofs.YtdnghibkagcbcaaGreatDoor
