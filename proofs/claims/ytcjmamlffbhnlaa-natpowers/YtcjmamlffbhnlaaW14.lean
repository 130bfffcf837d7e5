import Derived.Test.YtcjmamlffbhnlaaW13
namespace Go.Proofs.Ytcjmamlffbhnlaa
open Go.RowKit
set_option linter.unusedVariables false
/-- A number of two digits or less, trimmed. -/
theorem of_aux (w : World) (n : Int) (h0 : 0 ≤ n) (h1 : n < 18446744073709551616) (m : Nat) (hm : m ≤ 2) (hz : ∀ j, m ≤ j → ([n % 4294967296, n / 4294967296] : List Int).getD j 0 = 0) (hd : m ≠ 0 → ([n % 4294967296, n / 4294967296] : List Int).getD (m - 1) 0 ≠ 0) :
    ∃ zs, zs.length = m ∧ IsNum w (w.alloc (.cells #[.int .u32 (n % 4294967296), .int .u32 (n / 4294967296)] 49)) (some ⟨w.heap.size, 0, none⟩) zs n ∧ Own w.heap.size (w.alloc (.cells #[.int .u32 (n % 4294967296), .int .u32 (n / 4294967296)] 49)) (.slice (some ⟨w.heap.size, 0, none⟩) zs.length 2) zs := by
  have hb : Blk (w.alloc (.cells #[.int .u32 (n % 4294967296), .int .u32 (n / 4294967296)] 49)) w.heap.size [n % 4294967296, n / 4294967296] := heap_alloc_new w _
  have hr : Nt.Rng [n % 4294967296, n / 4294967296] := Nt.rng_mem (by intro z hz; simp at hz; omega)
  have hl : (([n % 4294967296, n / 4294967296] : List Int).take m).length = m := by simp; omega
  have ho := hb.own (B := w.heap.size) (n := m) (Nat.le_refl _) (by simpa using hm) (by unfold maxLen; simp)
  refine ⟨([n % 4294967296, n / 4294967296] : List Int).take m, hl, ⟨Nt.can_take hr (by simpa using hm) hd, by omega, ?_, ?_, below_alloc _ _⟩, by rw [hl]; exact ho⟩
  · rw [Nt.val_take hz (by simpa using hm)]
    rw [val_cons, val_cons, Nt.val_nil]; omega
  · obtain ⟨a, c, he, _, _, h⟩ := ho.lie
    simp only [Value.slice.injEq] at he
    rw [he.1]
    exact h

set_option maxHeartbeats 1000000 in
theorem of16 (n : Int) (h0 : 0 ≤ n) (h1 : n < 18446744073709551616) (w : World) :
    Calls Try.prog 16 #[.int .u64 n] w fun e w' => ∃ zs a c, e = .returned (.slice a zs.length c) ∧ IsNum w w' a zs n ∧ Own w.heap.size w' (.slice a zs.length c) zs := by
  have HT := Hide.mk (trim35 (some ⟨w.heap.size, 0, none⟩) 2 [n % 4294967296, n / 4294967296] _ (lie_new w [n % 4294967296, n / 4294967296]) (by simp) (by unfold maxLen; omega))
  go_enter Try.func16, Try.ntmps16
  go_wp2_with fail
  refine HT.out.mono ?_
  rintro e w' ⟨rfl, m, hm, rfl, hz, hd⟩
  have HF := Hide.mk (of_aux w n h0 h1 m hm hz hd)
  clear hz hd HT
  go_wp2
  go_ret
  obtain ⟨zs, hl, h2, h3⟩ := HF.out
  exact ⟨zs, _, 2, by rw [hl]; rfl, h2, h3⟩

set_option maxHeartbeats 1000000 in
theorem of17 (n : Int) (h0 : 0 ≤ n) (h1 : n < 18446744073709551616) (w : World) :
    Calls Try.prog 17 #[.int .u64 n] w fun e w' => ∃ zs a c, e = .returned (.slice a zs.length c) ∧ IsNum w w' a zs n ∧ Own w.heap.size w' (.slice a zs.length c) zs := by
  have HT := Hide.mk (trim36 (some ⟨w.heap.size, 0, none⟩) 2 [n % 4294967296, n / 4294967296] _ (lie_new w [n % 4294967296, n / 4294967296]) (by simp) (by unfold maxLen; omega))
  go_enter Try.func17, Try.ntmps17
  go_wp2_with fail
  refine HT.out.mono ?_
  rintro e w' ⟨rfl, m, hm, rfl, hz, hd⟩
  have HF := Hide.mk (of_aux w n h0 h1 m hm hz hd)
  clear hz hd HT
  go_wp2
  go_ret
  obtain ⟨zs, hl, h2, h3⟩ := HF.out
  exact ⟨zs, _, 2, by rw [hl]; rfl, h2, h3⟩

theorem or64_zero (x : Int) (h0 : 0 ≤ x) (h1 : x < 18446744073709551616) : bits .or .u64 0 x = x := by
  rw [u64_or 0 x (by decide) (by decide) h0 h1]
  simp; omega
theorem or64_join (x y : Int) (h0 : 0 ≤ x) (h1 : x < 4294967296) (h2 : 0 ≤ y) (h3 : y < 4294967296) : bits .or .u64 x (y * 4294967296) = x + 4294967296 * y := by
  rw [u64_or x _ h0 (by omega) (by omega) (by omega)]
  have := nat_join 32 (y * 4294967296).toNat x.toNat (by omega) (by omega)
  rw [Nat.or_comm, this]; omega

theorem val_one (x : Int) : Nt.val [x] = x := by rw [val_cons, Nt.val_nil]; omega
theorem val_two (x y : Int) : Nt.val [x, y] = x + 4294967296 * y := by rw [val_cons, val_one]

theorem lie_cell {w : World} {a : Option Addr} {zs : List Int} (h : Lie w a zs) {b o : Nat} (ha : a = some ⟨b, o, none⟩) {i : Nat} (hi : i < zs.length) : w.cell? ⟨b, o + i, none⟩ = some (.int .u32 (zs.getD i 0)) := by
  rcases h with rfl | ⟨b', o', he, hc⟩
  · simp at hi
  · rw [ha] at he
    cases he
    exact hc i hi
theorem lie_some {w : World} {a : Option Addr} {zs : List Int} (h : Lie w a zs) (hp : 0 < zs.length) : ∃ b o, a = some ⟨b, o, none⟩ := by
  rcases h with rfl | ⟨b, o, he, _⟩
  · simp at hp
  · exact ⟨b, o, he⟩

set_option maxHeartbeats 1000000 in
theorem num_two (b o c : Nat) (x y : Int) (w : World) (hm : mayB [x, y] = true) (ha : Lie w (some ⟨b, o, none⟩) [x, y]) (hx : 0 ≤ x) (hx' : x < 4294967296) (hy : 0 ≤ y) (hy' : y < 4294967296) :
    Calls Try.prog 18 #[.slice (some ⟨b, o, none⟩) 2 c] w fun e w' => e = .returned (.tuple #[.int .u64 (x + 4294967296 * y), .bool true]) ∧ w = w' := by
  have c0 : w.cell? ⟨b, o, none⟩ = some (.int .u32 x) := lie_cell ha rfl (i := 0) (by simp)
  have c1 : w.cell? ⟨b, o + 1, none⟩ = some (.int .u32 y) := lie_cell ha rfl (i := 1) (by simp)
  have HM := Hide.mk (may_yes (some ⟨b, o, none⟩) c [x, y] w ha (by unfold maxLen; simp) hm)
  rw [← or64_join x y hx hx' hy hy']
  have hx2 := or64_zero x hx (by omega)
  clear ha hm
  go_enter Try.func18, Try.ntmps18
  go_wp2_with fail
  refine HM.out.mono ?_
  rintro e w' ⟨rfl, rfl⟩
  go_wp2
  refine wp_loop_rounds 3 ?_
  rw [rounds_succ]
  go_wp2
  rw [rounds_succ]
  go_wp2
  rw [rounds_succ]
  go_wp2
  go_ret2
  exact ⟨rfl, rfl⟩
set_option maxHeartbeats 1000000 in
theorem num_one (b o c : Nat) (x : Int) (w : World) (hm : mayB [x] = true) (ha : Lie w (some ⟨b, o, none⟩) [x]) (hx : 0 ≤ x) (hx' : x < 4294967296) :
    Calls Try.prog 18 #[.slice (some ⟨b, o, none⟩) 1 c] w fun e w' => e = .returned (.tuple #[.int .u64 x, .bool true]) ∧ w = w' := by
  have c0 : w.cell? ⟨b, o, none⟩ = some (.int .u32 x) := lie_cell ha rfl (i := 0) (by simp)
  have HM := Hide.mk (may_yes (some ⟨b, o, none⟩) c [x] w ha (by unfold maxLen; simp) hm)
  have hx2 := or64_zero x hx (by omega)
  clear ha hm
  go_enter Try.func18, Try.ntmps18
  go_wp2_with fail
  refine HM.out.mono ?_
  rintro e w' ⟨rfl, rfl⟩
  go_wp2
  refine wp_loop_rounds 2 ?_
  rw [rounds_succ]
  go_wp2
  rw [rounds_succ]
  go_wp2
  go_ret2
  exact ⟨rfl, rfl⟩
set_option maxHeartbeats 1000000 in
theorem num_none (a : Option Addr) (c : Nat) (w : World) :
    Calls Try.prog 18 #[.slice a 0 c] w fun e w' => e = .returned (.tuple #[.int .u64 0, .bool true]) ∧ w = w' := by
  have HM := Hide.mk (may_yes a c [] w (.inl rfl) (by unfold maxLen; simp) (by decide))
  go_enter Try.func18, Try.ntmps18
  go_wp2_with fail
  refine HM.out.mono ?_
  rintro e w' ⟨rfl, rfl⟩
  go_wp2
  refine wp_loop_rounds 1 ?_
  rw [rounds_succ]
  go_wp2
  go_ret2
  exact ⟨rfl, rfl⟩
theorem num_yes (a : Option Addr) (c : Nat) (zs : List Int) (w : World) (hm : mayB zs = true) (ha : Lie w a zs) (hr : Nt.Rng zs) (hl : zs.length ≤ 2) :
    Calls Try.prog 18 #[.slice a zs.length c] w fun e w' => e = .returned (.tuple #[.int .u64 (Nt.val zs), .bool true]) ∧ w = w' := by
  match zs, hl with
  | [], _ => exact num_none a c w
  | [x], _ =>
    obtain ⟨b, o, rfl⟩ := lie_some ha (by simp)
    rw [val_one]
    exact num_one b o c x w hm ha (hr 0).1 (hr 0).2
  | [x, y], _ =>
    obtain ⟨b, o, rfl⟩ := lie_some ha (by simp)
    rw [val_two]
    exact num_two b o c x y w hm ha (hr 0).1 (hr 0).2 (hr 1).1 (hr 1).2
  | _ :: _ :: _ :: _, h => simp at h
set_option maxHeartbeats 1000000 in
theorem num_no (a : Option Addr) (c : Nat) (zs : List Int) (w : World) (ha : Lie w a zs) (hl : zs.length ≤ maxLen) (hm : mayB zs = false ∨ 2 < zs.length) :
    Calls Try.prog 18 #[.slice a zs.length c] w fun e w' => e = .returned (.tuple #[.int .u64 0, .bool false]) ∧ w = w' := by
  cases hp : mayB zs
  · have HM := Hide.mk (may_no a c zs w ha hl hp)
    clear ha hm hp
    go_enter Try.func18, Try.ntmps18
    go_wp2_with fail
    refine HM.out.mono ?_
    rintro e w' ⟨rfl, rfl⟩
    go_wp2
    go_ret2
    exact ⟨rfl, rfl⟩
  · have HM := Hide.mk (may_yes a c zs w ha hl hp)
    have h2 : 2 < zs.length := by
      rcases hm with h | h
      · rw [hp] at h; cases h
      · exact h
    clear ha hm hp
    go_enter Try.func18, Try.ntmps18
    go_wp2_with fail
    refine HM.out.mono ?_
    rintro e w' ⟨rfl, rfl⟩
    go_wp2
    go_ret2
    exact ⟨rfl, rfl⟩
end Go.Proofs.Ytcjmamlffbhnlaa
