import Derived.Test.YtioiakemmhfhkaaDoorWY
namespace Go.Proofs.YtioiakemmhfhkaaDoor
open Go.RowKit Go.Wd Go.Box
set_option linter.unusedVariables false
set_option maxRecDepth 3000
set_option maxHeartbeats 4000000 in
theorem values_inf_arg (b : Bool) (x : Int) (n : Bool) (a : Option Addr) (c : Nat) (zs : List Int) (ex : Int) (hlen : (zs.length : Int) ≤ 4100) (h : Ok b x) (hf : inf b ≤ sz b x) (hm : dmayB n zs ex = false) (w : World) (u : DLie w a zs) (hT : Tab w) :
    Calls Tryd.prog 16 #[.int .u8 (fm b), .int .u64 x, dV n a zs.length c ex] w fun e w' => e = .returned (.bool true) ∧ Below w.heap.size w w' := by
  have BX := (Bx.nil w).push (DO n a zs.length c ex)
  have hV : VE (fm b) x 7 := .inr ⟨b, rfl, h, hf, rfl⟩
  go_enter Tryd.func16, Tryd.ntmps16
  go_wp2_with fail
  refine (rGood b x h _).mono ?_
  rintro e u54 ⟨rfl, k54⟩
  replace BX := BX.keep k54
  obtain ⟨⟨q0, q1, q2⟩, _⟩ := cells3 BX w.heap.size _ _ _ _ (show (w.heap.size, DO n a zs.length c ex) ∈ _ by simp)
  clear k54
  go_wp2_with fail
  refine (wValue_err (fm b) x 7 hV _).mono ?_
  rintro e u55 ⟨rfl, k55⟩
  replace BX := BX.keep k55
  obtain ⟨⟨q0, q1, q2⟩, _⟩ := cells3 BX w.heap.size _ _ _ _ (show (w.heap.size, DO n a zs.length c ex) ∈ _ by simp)
  clear k55
  have hlt55 : w.heap.size < u55.heap.size := BX.lt (p := (w.heap.size, DO n a zs.length c ex)) (by simp)
  replace BX := BX.push (DO false none 0 0 0)
  go_wp2_with fail
  generalize hw55 : u55.alloc (DO false none 0 0 0) = wa at *
  clear hw55
  refine (wUnit_err (fm b) x 7 hV _).mono ?_
  rintro e u56 ⟨rfl, k56⟩
  replace BX := BX.keep k56
  clear k56
  have hlt56 : w.heap.size < u56.heap.size := BX.lt (p := (w.heap.size, DO n a zs.length c ex)) (by simp)
  have hlu : u55.heap.size < u56.heap.size := BX.lt (.head _)
  obtain ⟨⟨q0, q1, q2⟩, _⟩ := cells3 BX w.heap.size _ _ _ _ (show (w.heap.size, DO n a zs.length c ex) ∈ _ by simp)
  obtain ⟨⟨p0, p1, p2⟩, _⟩ := cells3 BX u55.heap.size _ _ _ _ (.head _)
  replace BX := BX.push (DO false none 0 0 0)
  go_wp2_with fail
  refine (rFinite_no b x h hf _).mono ?_
  rintro e u57 ⟨rfl, k57⟩
  replace BX := BX.keep k57
  clear k57
  obtain ⟨⟨q0, q1, q2⟩, _⟩ := cells3 BX w.heap.size _ _ _ _ (show (w.heap.size, DO n a zs.length c ex) ∈ _ by simp)
  obtain ⟨⟨p0, p1, p2⟩, _⟩ := cells3 BX u55.heap.size _ _ _ _ (.tail _ (.head _))
  obtain ⟨⟨s0, s1, s2⟩, _⟩ := cells3 BX u56.heap.size _ _ _ _ (.head _)
  clear hV
  go_wp2_with fail
  refine (same_none _).mono ?_
  rintro e u58 ⟨rfl, k58⟩
  replace BX := BX.keep k58
  clear k58
  obtain ⟨⟨q0, q1, q2⟩, _⟩ := cells3 BX w.heap.size _ _ _ _ (show (w.heap.size, DO n a zs.length c ex) ∈ _ by simp)
  obtain ⟨⟨s0, s1, s2⟩, _⟩ := cells3 BX u56.heap.size _ _ _ _ (.head _)
  go_wp2_with fail
  refine (same_none _).mono ?_
  rintro e u59 ⟨rfl, k59⟩
  replace BX := BX.keep k59
  obtain ⟨⟨q0, q1, q2⟩, _⟩ := cells3 BX w.heap.size _ _ _ _ (show (w.heap.size, DO n a zs.length c ex) ∈ _ by simp)
  clear k59
  go_wp2_with fail
  refine (wOf_arg b n a c zs ex _ ⟨u.lie.below BX.bel (Nat.le_refl _), u.len, u.rng⟩ hm).mono ?_
  rintro e u60 ⟨rfl, k60⟩
  replace BX := BX.keep k60
  obtain ⟨⟨q0, q1, q2⟩, _⟩ := cells3 BX w.heap.size _ _ _ _ (show (w.heap.size, DO n a zs.length c ex) ∈ _ by simp)
  clear k60
  go_wp2_with fail
  refine (rIs b _).mono ?_
  rintro e u61 ⟨rfl, k61⟩
  replace BX := BX.keep k61
  obtain ⟨⟨q0, q1, q2⟩, _⟩ := cells3 BX w.heap.size _ _ _ _ (show (w.heap.size, DO n a zs.length c ex) ∈ _ by simp)
  clear k61
  go_wp2_with fail
  refine (drefmay37 n a c zs ex _ ⟨u.lie.below BX.bel (Nat.le_refl _), u.len, u.rng⟩ false hm).mono ?_
  rintro e u62 ⟨rfl, k62⟩
  replace BX := BX.keep k62
  obtain ⟨⟨q0, q1, q2⟩, _⟩ := cells3 BX w.heap.size _ _ _ _ (show (w.heap.size, DO n a zs.length c ex) ∈ _ by simp)
  clear k62
  clear hm
  go_wp2_with fail
  refine (lIs_err 2 0 rfl _).mono ?_
  rintro e u63 ⟨rfl, k63⟩
  replace BX := BX.keep k63
  obtain ⟨⟨q0, q1, q2⟩, _⟩ := cells3 BX w.heap.size _ _ _ _ (show (w.heap.size, DO n a zs.length c ex) ∈ _ by simp)
  clear k63
  go_wp2_with fail
  refine (lKnown _).mono ?_
  rintro e u64 ⟨rfl, k64⟩
  replace BX := BX.keep k64
  obtain ⟨⟨q0, q1, q2⟩, _⟩ := cells3 BX w.heap.size _ _ _ _ (show (w.heap.size, DO n a zs.length c ex) ∈ _ by simp)
  clear k64
  go_wp2
  go_ret
  exact ⟨rfl, BX.bel⟩
set_option maxHeartbeats 4000000 in
theorem values_inf_zero (b : Bool) (x : Int) (n : Bool) (a : Option Addr) (c : Nat) (zs : List Int) (ex : Int) (hzero : n = false ∧ zs = [] ∧ ex = 0) (hlen : (zs.length : Int) ≤ 4100) (h : Ok b x) (hf : inf b ≤ sz b x)  (w : World) (u : DLie w a zs) (hT : Tab w) :
    Calls Tryd.prog 16 #[.int .u8 (fm b), .int .u64 x, dV n a zs.length c ex] w fun e w' => e = .returned (.bool true) ∧ Below w.heap.size w w' := by
  obtain ⟨rfl, rfl, rfl⟩ := hzero
  have BX := (Bx.nil w).push (DO false a ([] : List Int).length c 0)
  have hV : VE (fm b) x 7 := .inr ⟨b, rfl, h, hf, rfl⟩
  go_enter Tryd.func16, Tryd.ntmps16
  go_wp2_with fail
  refine (rGood b x h _).mono ?_
  rintro e u65 ⟨rfl, k65⟩
  replace BX := BX.keep k65
  obtain ⟨⟨q0, q1, q2⟩, _⟩ := cells3 BX w.heap.size _ _ _ _ (show (w.heap.size, DO false a ([] : List Int).length c 0) ∈ _ by simp)
  clear k65
  go_wp2_with fail
  refine (wValue_err (fm b) x 7 hV _).mono ?_
  rintro e u66 ⟨rfl, k66⟩
  replace BX := BX.keep k66
  obtain ⟨⟨q0, q1, q2⟩, _⟩ := cells3 BX w.heap.size _ _ _ _ (show (w.heap.size, DO false a ([] : List Int).length c 0) ∈ _ by simp)
  clear k66
  have hlt66 : w.heap.size < u66.heap.size := BX.lt (p := (w.heap.size, DO false a ([] : List Int).length c 0)) (by simp)
  replace BX := BX.push (DO false none 0 0 0)
  go_wp2_with fail
  generalize hw66 : u66.alloc (DO false none 0 0 0) = wa at *
  clear hw66
  refine (wUnit_err (fm b) x 7 hV _).mono ?_
  rintro e u67 ⟨rfl, k67⟩
  replace BX := BX.keep k67
  clear k67
  have hlt67 : w.heap.size < u67.heap.size := BX.lt (p := (w.heap.size, DO false a ([] : List Int).length c 0)) (by simp)
  have hlu : u66.heap.size < u67.heap.size := BX.lt (.head _)
  obtain ⟨⟨q0, q1, q2⟩, _⟩ := cells3 BX w.heap.size _ _ _ _ (show (w.heap.size, DO false a ([] : List Int).length c 0) ∈ _ by simp)
  obtain ⟨⟨p0, p1, p2⟩, _⟩ := cells3 BX u66.heap.size _ _ _ _ (.head _)
  replace BX := BX.push (DO false none 0 0 0)
  go_wp2_with fail
  refine (rFinite_no b x h hf _).mono ?_
  rintro e u68 ⟨rfl, k68⟩
  replace BX := BX.keep k68
  clear k68
  obtain ⟨⟨q0, q1, q2⟩, _⟩ := cells3 BX w.heap.size _ _ _ _ (show (w.heap.size, DO false a ([] : List Int).length c 0) ∈ _ by simp)
  obtain ⟨⟨p0, p1, p2⟩, _⟩ := cells3 BX u66.heap.size _ _ _ _ (.tail _ (.head _))
  obtain ⟨⟨s0, s1, s2⟩, _⟩ := cells3 BX u67.heap.size _ _ _ _ (.head _)
  clear hV
  go_wp2_with fail
  refine (same_none _).mono ?_
  rintro e u69 ⟨rfl, k69⟩
  replace BX := BX.keep k69
  clear k69
  obtain ⟨⟨q0, q1, q2⟩, _⟩ := cells3 BX w.heap.size _ _ _ _ (show (w.heap.size, DO false a ([] : List Int).length c 0) ∈ _ by simp)
  obtain ⟨⟨s0, s1, s2⟩, _⟩ := cells3 BX u67.heap.size _ _ _ _ (.head _)
  go_wp2_with fail
  refine (same_none _).mono ?_
  rintro e u70 ⟨rfl, k70⟩
  replace BX := BX.keep k70
  obtain ⟨⟨q0, q1, q2⟩, _⟩ := cells3 BX w.heap.size _ _ _ _ (show (w.heap.size, DO false a ([] : List Int).length c 0) ∈ _ by simp)
  clear k70
  go_wp2_with fail
  refine (wOf_zero b a c _).mono ?_
  rintro e u71 ⟨rfl, k71⟩
  replace BX := BX.keep k71
  obtain ⟨⟨q0, q1, q2⟩, _⟩ := cells3 BX w.heap.size _ _ _ _ (show (w.heap.size, DO false a ([] : List Int).length c 0) ∈ _ by simp)
  clear k71
  go_wp2_with fail
  refine (rIs b _).mono ?_
  rintro e u72 ⟨rfl, k72⟩
  replace BX := BX.keep k72
  obtain ⟨⟨q0, q1, q2⟩, _⟩ := cells3 BX w.heap.size _ _ _ _ (show (w.heap.size, DO false a ([] : List Int).length c 0) ∈ _ by simp)
  clear k72
  go_wp2_with fail
  refine (drefmay37 false a c [] 0 _ ⟨u.lie.below BX.bel (Nat.le_refl _), u.len, u.rng⟩ true rfl).mono ?_
  rintro e u73 ⟨rfl, k73⟩
  replace BX := BX.keep k73
  obtain ⟨⟨q0, q1, q2⟩, _⟩ := cells3 BX w.heap.size _ _ _ _ (show (w.heap.size, DO false a ([] : List Int).length c 0) ∈ _ by simp)
  clear k73
  go_wp2_with fail
  refine (rOf_zero b a c _).mono ?_
  rintro e u74 ⟨rfl, k74⟩
  replace BX := BX.keep k74
  obtain ⟨⟨q0, q1, q2⟩, _⟩ := cells3 BX w.heap.size _ _ _ _ (show (w.heap.size, DO false a ([] : List Int).length c 0) ∈ _ by simp)
  clear k74
  go_wp2_with fail
  refine (lIs _ _).mono ?_
  rintro e u75 ⟨rfl, k75⟩
  replace BX := BX.keep k75
  obtain ⟨⟨q0, q1, q2⟩, _⟩ := cells3 BX w.heap.size _ _ _ _ (show (w.heap.size, DO false a ([] : List Int).length c 0) ∈ _ by simp)
  clear k75
  go_wp2_with fail
  refine (lKnown _).mono ?_
  rintro e u76 ⟨rfl, k76⟩
  replace BX := BX.keep k76
  obtain ⟨⟨q0, q1, q2⟩, _⟩ := cells3 BX w.heap.size _ _ _ _ (show (w.heap.size, DO false a ([] : List Int).length c 0) ∈ _ by simp)
  clear k76
  go_wp2
  go_ret
  exact ⟨rfl, BX.bel⟩
set_option maxHeartbeats 4000000 in
theorem values_inf_none (b : Bool) (x : Int) (n : Bool) (a : Option Addr) (c : Nat) (zs : List Int) (ex : Int) (hlen : (zs.length : Int) ≤ 4100) (h : Ok b x) (hf : inf b ≤ sz b x) (g : DG n zs ex) (hz : 0 < zs.length) {B : Nat} (hB : BitLen (Nt.val zs) B) (hbb : B ≤ 131072) (hc : tp b ≤ uu b (B + ex) - lo b + 1 ∨ ex < uu b (B + ex)) (w : World) (u : DLie w a zs) (hT : Tab w) :
    Calls Tryd.prog 16 #[.int .u8 (fm b), .int .u64 x, dV n a zs.length c ex] w fun e w' => e = .returned (.bool true) ∧ Below w.heap.size w w' := by
  have BX := (Bx.nil w).push (DO n a zs.length c ex)
  have hV : VE (fm b) x 7 := .inr ⟨b, rfl, h, hf, rfl⟩
  go_enter Tryd.func16, Tryd.ntmps16
  go_wp2_with fail
  refine (rGood b x h _).mono ?_
  rintro e u77 ⟨rfl, k77⟩
  replace BX := BX.keep k77
  obtain ⟨⟨q0, q1, q2⟩, _⟩ := cells3 BX w.heap.size _ _ _ _ (show (w.heap.size, DO n a zs.length c ex) ∈ _ by simp)
  clear k77
  go_wp2_with fail
  refine (wValue_err (fm b) x 7 hV _).mono ?_
  rintro e u78 ⟨rfl, k78⟩
  replace BX := BX.keep k78
  obtain ⟨⟨q0, q1, q2⟩, _⟩ := cells3 BX w.heap.size _ _ _ _ (show (w.heap.size, DO n a zs.length c ex) ∈ _ by simp)
  clear k78
  have hlt78 : w.heap.size < u78.heap.size := BX.lt (p := (w.heap.size, DO n a zs.length c ex)) (by simp)
  replace BX := BX.push (DO false none 0 0 0)
  go_wp2_with fail
  generalize hw78 : u78.alloc (DO false none 0 0 0) = wa at *
  clear hw78
  refine (wUnit_err (fm b) x 7 hV _).mono ?_
  rintro e u79 ⟨rfl, k79⟩
  replace BX := BX.keep k79
  clear k79
  have hlt79 : w.heap.size < u79.heap.size := BX.lt (p := (w.heap.size, DO n a zs.length c ex)) (by simp)
  have hlu : u78.heap.size < u79.heap.size := BX.lt (.head _)
  obtain ⟨⟨q0, q1, q2⟩, _⟩ := cells3 BX w.heap.size _ _ _ _ (show (w.heap.size, DO n a zs.length c ex) ∈ _ by simp)
  obtain ⟨⟨p0, p1, p2⟩, _⟩ := cells3 BX u78.heap.size _ _ _ _ (.head _)
  replace BX := BX.push (DO false none 0 0 0)
  go_wp2_with fail
  refine (rFinite_no b x h hf _).mono ?_
  rintro e u80 ⟨rfl, k80⟩
  replace BX := BX.keep k80
  clear k80
  obtain ⟨⟨q0, q1, q2⟩, _⟩ := cells3 BX w.heap.size _ _ _ _ (show (w.heap.size, DO n a zs.length c ex) ∈ _ by simp)
  obtain ⟨⟨p0, p1, p2⟩, _⟩ := cells3 BX u78.heap.size _ _ _ _ (.tail _ (.head _))
  obtain ⟨⟨s0, s1, s2⟩, _⟩ := cells3 BX u79.heap.size _ _ _ _ (.head _)
  clear hV
  go_wp2_with fail
  refine (same_none _).mono ?_
  rintro e u81 ⟨rfl, k81⟩
  replace BX := BX.keep k81
  clear k81
  obtain ⟨⟨q0, q1, q2⟩, _⟩ := cells3 BX w.heap.size _ _ _ _ (show (w.heap.size, DO n a zs.length c ex) ∈ _ by simp)
  obtain ⟨⟨s0, s1, s2⟩, _⟩ := cells3 BX u79.heap.size _ _ _ _ (.head _)
  go_wp2_with fail
  refine (same_none _).mono ?_
  rintro e u82 ⟨rfl, k82⟩
  replace BX := BX.keep k82
  obtain ⟨⟨q0, q1, q2⟩, _⟩ := cells3 BX w.heap.size _ _ _ _ (show (w.heap.size, DO n a zs.length c ex) ∈ _ by simp)
  clear k82
  go_wp2_with fail
  refine (wOf_no b n a c zs ex _ (u.lie.below BX.bel (Nat.le_refl _)) g hz hB hbb hc).mono ?_
  rintro e u83 ⟨rfl, k83⟩
  replace BX := BX.keep k83
  obtain ⟨⟨q0, q1, q2⟩, _⟩ := cells3 BX w.heap.size _ _ _ _ (show (w.heap.size, DO n a zs.length c ex) ∈ _ by simp)
  clear k83
  go_wp2_with fail
  refine (rIs b _).mono ?_
  rintro e u84 ⟨rfl, k84⟩
  replace BX := BX.keep k84
  obtain ⟨⟨q0, q1, q2⟩, _⟩ := cells3 BX w.heap.size _ _ _ _ (show (w.heap.size, DO n a zs.length c ex) ∈ _ by simp)
  clear k84
  go_wp2_with fail
  refine (drefmay37 n a c zs ex _ ⟨u.lie.below BX.bel (Nat.le_refl _), u.len, u.rng⟩ true g.may).mono ?_
  rintro e u85 ⟨rfl, k85⟩
  replace BX := BX.keep k85
  obtain ⟨⟨q0, q1, q2⟩, _⟩ := cells3 BX w.heap.size _ _ _ _ (show (w.heap.size, DO n a zs.length c ex) ∈ _ by simp)
  clear k85
  go_wp2_with fail
  refine (rOf_no b n a c zs ex _ (u.lie.below BX.bel (Nat.le_refl _)) g hz hB hbb hc).mono ?_
  rintro e u86 ⟨rfl, k86⟩
  replace BX := BX.keep k86
  obtain ⟨⟨q0, q1, q2⟩, _⟩ := cells3 BX w.heap.size _ _ _ _ (show (w.heap.size, DO n a zs.length c ex) ∈ _ by simp)
  clear k86
  go_wp2_with fail
  refine (lIs_err 7 _ rfl _).mono ?_
  rintro e u87 ⟨rfl, k87⟩
  replace BX := BX.keep k87
  obtain ⟨⟨q0, q1, q2⟩, _⟩ := cells3 BX w.heap.size _ _ _ _ (show (w.heap.size, DO n a zs.length c ex) ∈ _ by simp)
  clear k87
  go_wp2_with fail
  refine (lKnown _).mono ?_
  rintro e u88 ⟨rfl, k88⟩
  replace BX := BX.keep k88
  obtain ⟨⟨q0, q1, q2⟩, _⟩ := cells3 BX w.heap.size _ _ _ _ (show (w.heap.size, DO n a zs.length c ex) ∈ _ by simp)
  clear k88
  go_wp2
  go_ret
  exact ⟨rfl, BX.bel⟩
set_option maxHeartbeats 4000000 in
theorem values_inf_ok (b : Bool) (x : Int) (n : Bool) (a : Option Addr) (c : Nat) (zs : List Int) (ex : Int) (hlen : (zs.length : Int) ≤ 4100) (h : Ok b x) (hf : inf b ≤ sz b x) (g : DG n zs ex) (hz : 0 < zs.length) {B : Nat} (hB : BitLen (Nt.val zs) B) (hbb : B ≤ 131072) (hc1 : uu b (B + ex) - lo b + 1 < tp b) (hc2 : uu b (B + ex) ≤ ex) (k : Nat) (hk : (k : Int) = ex - uu b (B + ex)) (w : World) (u : DLie w a zs) (hT : Tab w) :
    Calls Tryd.prog 16 #[.int .u8 (fm b), .int .u64 x, dV n a zs.length c ex] w fun e w' => e = .returned (.bool true) ∧ Below w.heap.size w w' := by
  have BX := (Bx.nil w).push (DO n a zs.length c ex)
  have hV : VE (fm b) x 7 := .inr ⟨b, rfl, h, hf, rfl⟩
  go_enter Tryd.func16, Tryd.ntmps16
  go_wp2_with fail
  refine (rGood b x h _).mono ?_
  rintro e u89 ⟨rfl, k89⟩
  replace BX := BX.keep k89
  obtain ⟨⟨q0, q1, q2⟩, _⟩ := cells3 BX w.heap.size _ _ _ _ (show (w.heap.size, DO n a zs.length c ex) ∈ _ by simp)
  clear k89
  go_wp2_with fail
  refine (wValue_err (fm b) x 7 hV _).mono ?_
  rintro e u90 ⟨rfl, k90⟩
  replace BX := BX.keep k90
  obtain ⟨⟨q0, q1, q2⟩, _⟩ := cells3 BX w.heap.size _ _ _ _ (show (w.heap.size, DO n a zs.length c ex) ∈ _ by simp)
  clear k90
  have hlt90 : w.heap.size < u90.heap.size := BX.lt (p := (w.heap.size, DO n a zs.length c ex)) (by simp)
  replace BX := BX.push (DO false none 0 0 0)
  go_wp2_with fail
  generalize hw90 : u90.alloc (DO false none 0 0 0) = wa at *
  clear hw90
  refine (wUnit_err (fm b) x 7 hV _).mono ?_
  rintro e u91 ⟨rfl, k91⟩
  replace BX := BX.keep k91
  clear k91
  have hlt91 : w.heap.size < u91.heap.size := BX.lt (p := (w.heap.size, DO n a zs.length c ex)) (by simp)
  have hlu : u90.heap.size < u91.heap.size := BX.lt (.head _)
  obtain ⟨⟨q0, q1, q2⟩, _⟩ := cells3 BX w.heap.size _ _ _ _ (show (w.heap.size, DO n a zs.length c ex) ∈ _ by simp)
  obtain ⟨⟨p0, p1, p2⟩, _⟩ := cells3 BX u90.heap.size _ _ _ _ (.head _)
  replace BX := BX.push (DO false none 0 0 0)
  go_wp2_with fail
  refine (rFinite_no b x h hf _).mono ?_
  rintro e u92 ⟨rfl, k92⟩
  replace BX := BX.keep k92
  clear k92
  obtain ⟨⟨q0, q1, q2⟩, _⟩ := cells3 BX w.heap.size _ _ _ _ (show (w.heap.size, DO n a zs.length c ex) ∈ _ by simp)
  obtain ⟨⟨p0, p1, p2⟩, _⟩ := cells3 BX u90.heap.size _ _ _ _ (.tail _ (.head _))
  obtain ⟨⟨s0, s1, s2⟩, _⟩ := cells3 BX u91.heap.size _ _ _ _ (.head _)
  clear hV
  go_wp2_with fail
  refine (same_none _).mono ?_
  rintro e u93 ⟨rfl, k93⟩
  replace BX := BX.keep k93
  clear k93
  obtain ⟨⟨q0, q1, q2⟩, _⟩ := cells3 BX w.heap.size _ _ _ _ (show (w.heap.size, DO n a zs.length c ex) ∈ _ by simp)
  obtain ⟨⟨s0, s1, s2⟩, _⟩ := cells3 BX u91.heap.size _ _ _ _ (.head _)
  go_wp2_with fail
  refine (same_none _).mono ?_
  rintro e u94 ⟨rfl, k94⟩
  replace BX := BX.keep k94
  obtain ⟨⟨q0, q1, q2⟩, _⟩ := cells3 BX w.heap.size _ _ _ _ (show (w.heap.size, DO n a zs.length c ex) ∈ _ by simp)
  clear k94
  go_wp2_with fail
  refine (wOf_ok b n a c zs ex _ (u.lie.below BX.bel (Nat.le_refl _)) g hz hB hbb hc1 hc2 k hk).mono ?_
  rintro e u95 ⟨rfl, k95⟩
  replace BX := BX.keep k95
  obtain ⟨⟨q0, q1, q2⟩, _⟩ := cells3 BX w.heap.size _ _ _ _ (show (w.heap.size, DO n a zs.length c ex) ∈ _ by simp)
  clear k95
  go_wp2_with fail
  refine (rIs b _).mono ?_
  rintro e u96 ⟨rfl, k96⟩
  replace BX := BX.keep k96
  obtain ⟨⟨q0, q1, q2⟩, _⟩ := cells3 BX w.heap.size _ _ _ _ (show (w.heap.size, DO n a zs.length c ex) ∈ _ by simp)
  clear k96
  go_wp2_with fail
  refine (drefmay37 n a c zs ex _ ⟨u.lie.below BX.bel (Nat.le_refl _), u.len, u.rng⟩ true g.may).mono ?_
  rintro e u97 ⟨rfl, k97⟩
  replace BX := BX.keep k97
  obtain ⟨⟨q0, q1, q2⟩, _⟩ := cells3 BX w.heap.size _ _ _ _ (show (w.heap.size, DO n a zs.length c ex) ∈ _ by simp)
  clear k97
  go_wp2_with fail
  refine (rOf_ok b n a c zs ex _ (u.lie.below BX.bel (Nat.le_refl _)) g hz hB hbb hc1 hc2 k hk).mono ?_
  rintro e u98 ⟨rfl, k98⟩
  replace BX := BX.keep k98
  obtain ⟨⟨q0, q1, q2⟩, _⟩ := cells3 BX w.heap.size _ _ _ _ (show (w.heap.size, DO n a zs.length c ex) ∈ _ by simp)
  clear k98
  go_wp2_with fail
  refine (lIs _ _).mono ?_
  rintro e u99 ⟨rfl, k99⟩
  replace BX := BX.keep k99
  obtain ⟨⟨q0, q1, q2⟩, _⟩ := cells3 BX w.heap.size _ _ _ _ (show (w.heap.size, DO n a zs.length c ex) ∈ _ by simp)
  clear k99
  go_wp2_with fail
  refine (lKnown _).mono ?_
  rintro e u100 ⟨rfl, k100⟩
  replace BX := BX.keep k100
  obtain ⟨⟨q0, q1, q2⟩, _⟩ := cells3 BX w.heap.size _ _ _ _ (show (w.heap.size, DO n a zs.length c ex) ∈ _ by simp)
  clear k100
  go_wp2
  go_ret
  exact ⟨rfl, BX.bel⟩
set_option maxHeartbeats 4000000 in
theorem values_fin_arg (b : Bool) (x : Int) (n : Bool) (a : Option Addr) (c : Nat) (zs : List Int) (ex : Int) (hlen : (zs.length : Int) ≤ 4100) (h : Ok b x) (hf : sz b x < inf b) (hm : dmayB n zs ex = false) (w : World) (u : DLie w a zs) (hT : Tab w) :
    Calls Tryd.prog 16 #[.int .u8 (fm b), .int .u64 x, dV n a zs.length c ex] w fun e w' => e = .returned (.bool true) ∧ Below w.heap.size w w' := by
  have BX := (Bx.nil w).push (DO n a zs.length c ex)
  go_enter Tryd.func16, Tryd.ntmps16
  go_wp2_with fail
  refine (rGood b x h _).mono ?_
  rintro e u101 ⟨rfl, k101⟩
  replace BX := BX.keep k101
  obtain ⟨⟨q0, q1, q2⟩, _⟩ := cells3 BX w.heap.size _ _ _ _ (show (w.heap.size, DO n a zs.length c ex) ∈ _ by simp)
  clear k101
  go_wp2_with fail
  refine (wValue b x h hf _ (hT.below BX.bel (Nat.le_refl _))).mono ?_
  rintro e u102 ⟨nv, zv, xv, av, cv, rfl, dV1⟩
  replace BX := BX.keep dV1.bel
  have lv := dV1.lie
  have NV := Hide.mk dV1.num
  clear dV1
  obtain ⟨⟨q0, q1, q2⟩, _⟩ := cells3 BX w.heap.size _ _ _ _ (show (w.heap.size, DO n a zs.length c ex) ∈ _ by simp)
  have hlt102 : w.heap.size < u102.heap.size := BX.lt (p := (w.heap.size, DO n a zs.length c ex)) (by simp)
  replace BX := BX.push (DO nv av zv.length cv xv)
  replace lv := lv.below (below_alloc u102 (DO nv av zv.length cv xv)) (Nat.le_refl _)
  go_wp2_with fail
  generalize hw102 : u102.alloc (DO nv av zv.length cv xv) = wa at *
  clear hw102
  refine (wUnit b x h hf _ (hT.below BX.bel (Nat.le_refl _))).mono ?_
  rintro e u103 ⟨nu, zu, xu, au, cu, rfl, dV2⟩
  replace BX := BX.keep dV2.bel
  replace lv := lv.below dV2.bel (Nat.le_refl _)
  have lu := dV2.lie
  have NU := Hide.mk dV2.num
  clear dV2
  have hlt103 : w.heap.size < u103.heap.size := BX.lt (p := (w.heap.size, DO n a zs.length c ex)) (by simp)
  have hlu : u102.heap.size < u103.heap.size := BX.lt (.head _)
  replace BX := BX.push (DO nu au zu.length cu xu)
  replace lv := lv.below (below_alloc u103 (DO nu au zu.length cu xu)) (Nat.le_refl _)
  replace lu := lu.below (below_alloc u103 (DO nu au zu.length cu xu)) (Nat.le_refl _)
  go_wp2_with fail
  generalize hw103 : u103.alloc (DO nu au zu.length cu xu) = wb at *
  clear hw103
  refine (rFinite b x h hf _).mono ?_
  rintro e u104 ⟨rfl, k104⟩
  replace BX := BX.keep k104
  replace lv := lv.below k104 (Nat.le_refl _)
  replace lu := lu.below k104 (Nat.le_refl _)
  clear k104
  go_wp2_with fail
  have HI := BX.drew
  replace lv : Lie u104.drew av zv := lv
  replace lu : Lie u104.drew au zu := lu
  have sh := fun W (hW : Bx w [(u103.heap.size, DO nu au zu.length cu xu), (u102.heap.size, DO nv av zv.length cv xv), (w.heap.size, DO n a zs.length c ex)] W) => And.intro (cells3 hW u103.heap.size _ _ _ _ (.head _)).1 (cells3 hW u102.heap.size _ _ _ _ (.tail _ (.head _))).1
  refine Drawn.enter (Bx w [(u103.heap.size, DO nu au zu.length cu xu), (u102.heap.size, DO nv av zv.length cv xv), (w.heap.size, DO n a zs.length c ex)]) (by kernel_rfl) ?_
  refine Drawn.take (i := 0) (v := ?v0) rfl (by kernel_rfl) (by kernel_rfl) (by kernel_rfl) (fun _ _ _ h => h) (by kernel_rfl) (fun W hW => ?_) HI ?_
  rotate_left
  · have ⟨⟨s0, s1, s2⟩, p0, p1, p2⟩ := sh W hW
    go_simp <;> exact rfl
  refine Drawn.take (i := 1) (v := ?v1) rfl (by kernel_rfl) (by kernel_rfl) (by kernel_rfl) (fun _ _ _ h => h) (by kernel_rfl) (fun W hW => ?_) HI ?_
  rotate_left
  · have ⟨⟨s0, s1, s2⟩, p0, p1, p2⟩ := sh W hW
    go_simp <;> exact rfl
  refine Drawn.take (i := 2) (v := ?v2) rfl (by kernel_rfl) (by kernel_rfl) (by kernel_rfl) (fun _ _ _ h => h) (by kernel_rfl) (fun W hW => ?_) HI ?_
  rotate_left
  · have ⟨⟨s0, s1, s2⟩, p0, p1, p2⟩ := sh W hW
    go_simp <;> exact rfl
  refine Drawn.one (j := 3) (by kernel_rfl) rfl (fun K hK => ?_)
  go_simp
  refine (rValue b x h _).mono ?_
  rintro e wn ⟨n3, z3, x3, a3, c3, rfl, N3, l3, hn⟩
  refine hK _ _ (HI.keep hn) ?_
  clear hK K
  replace HI := HI.keep hn
  replace lv := lv.below hn (Nat.le_refl _)
  replace lu := lu.below hn (Nat.le_refl _)
  clear hn
  refine Drawn.one (j := 4) (by kernel_rfl) rfl (fun K hK => ?_)
  go_simp
  refine (same_num nv n3 av a3 cv c3 zv z3 xv x3 _ _ NV.out N3 lv l3).mono ?_
  rintro e wm ⟨rfl, hn⟩
  refine hK _ _ (HI.keep hn) ?_
  clear hK K
  replace HI := HI.keep hn
  replace lu := lu.below hn (Nat.le_refl _)
  clear hn N3 l3 lv NV
  refine Drawn.take (i := 5) (v := .bool false) rfl (by kernel_rfl) (by kernel_rfl) (by kernel_rfl) (fun _ _ _ h => h) (by kernel_rfl) (fun W hW => ?_) HI ?_
  · have ⟨⟨s0, s1, s2⟩, p0, p1, p2⟩ := sh W hW
    go_simp <;> (rfl)
  refine Drawn.take (i := 6) (v := ?v3) rfl (by kernel_rfl) (by kernel_rfl) (by kernel_rfl) (fun _ _ _ h => h) (by kernel_rfl) (fun W hW => ?_) HI ?_
  rotate_left
  · have ⟨⟨s0, s1, s2⟩, p0, p1, p2⟩ := sh W hW
    go_simp <;> exact rfl
  refine Drawn.take (i := 7) (v := ?v4) rfl (by kernel_rfl) (by kernel_rfl) (by kernel_rfl) (fun _ _ _ h => h) (by kernel_rfl) (fun W hW => ?_) HI ?_
  rotate_left
  · have ⟨⟨s0, s1, s2⟩, p0, p1, p2⟩ := sh W hW
    go_simp <;> exact rfl
  refine Drawn.take (i := 8) (v := ?v5) rfl (by kernel_rfl) (by kernel_rfl) (by kernel_rfl) (fun _ _ _ h => h) (by kernel_rfl) (fun W hW => ?_) HI ?_
  rotate_left
  · have ⟨⟨s0, s1, s2⟩, p0, p1, p2⟩ := sh W hW
    go_simp <;> exact rfl
  refine Drawn.take (i := 9) (v := ?v6) rfl (by kernel_rfl) (by kernel_rfl) (by kernel_rfl) (fun _ _ _ h => h) (by kernel_rfl) (fun W hW => ?_) HI ?_
  rotate_left
  · have ⟨⟨s0, s1, s2⟩, p0, p1, p2⟩ := sh W hW
    go_simp <;> exact rfl
  refine Drawn.one (j := 10) (by kernel_rfl) rfl (fun K hK => ?_)
  go_simp
  refine (rUnit b x h _).mono ?_
  rintro e wn ⟨n3, z3, x3, a3, c3, rfl, N3, l3, hn⟩
  refine hK _ _ (HI.keep hn) ?_
  clear hK K
  replace HI := HI.keep hn
  replace lu := lu.below hn (Nat.le_refl _)
  clear hn
  refine Drawn.one (j := 11) (by kernel_rfl) rfl (fun K hK => ?_)
  go_simp
  refine (same_num nu n3 au a3 cu c3 zu z3 xu x3 _ _ NU.out N3 lu l3).mono ?_
  rintro e wm2 ⟨rfl, hn⟩
  refine hK _ _ (HI.keep hn) ?_
  clear hK K
  replace HI := HI.keep hn
  clear hn N3 l3 lu NU
  refine Drawn.take (i := 12) (v := .bool false) rfl (by kernel_rfl) (by kernel_rfl) (by kernel_rfl) (fun _ _ _ h => h) (by kernel_rfl) (fun W hW => ?_) HI ?_
  · have ⟨⟨s0, s1, s2⟩, p0, p1, p2⟩ := sh W hW
    go_simp <;> (rfl)
  refine Drawn.take (i := 13) (v := ?v7) rfl (by kernel_rfl) (by kernel_rfl) (by kernel_rfl) (fun _ _ _ h => h) (by kernel_rfl) (fun W hW => ?_) HI ?_
  rotate_left
  · have ⟨⟨s0, s1, s2⟩, p0, p1, p2⟩ := sh W hW
    go_simp <;> exact rfl
  refine Drawn.done (by kernel_rfl) ?_
  try go_simp
  replace BX := HI
  clear HI sh
  obtain ⟨⟨q0, q1, q2⟩, _⟩ := cells3 BX w.heap.size _ _ _ _ (show (w.heap.size, DO n a zs.length c ex) ∈ _ by simp)
  go_wp2_with fail
  refine (wOf_arg b n a c zs ex _ ⟨u.lie.below BX.bel (Nat.le_refl _), u.len, u.rng⟩ hm).mono ?_
  rintro e u105 ⟨rfl, k105⟩
  replace BX := BX.keep k105
  obtain ⟨⟨q0, q1, q2⟩, _⟩ := cells3 BX w.heap.size _ _ _ _ (show (w.heap.size, DO n a zs.length c ex) ∈ _ by simp)
  clear k105
  go_wp2_with fail
  refine (rIs b _).mono ?_
  rintro e u106 ⟨rfl, k106⟩
  replace BX := BX.keep k106
  obtain ⟨⟨q0, q1, q2⟩, _⟩ := cells3 BX w.heap.size _ _ _ _ (show (w.heap.size, DO n a zs.length c ex) ∈ _ by simp)
  clear k106
  go_wp2_with fail
  refine (drefmay37 n a c zs ex _ ⟨u.lie.below BX.bel (Nat.le_refl _), u.len, u.rng⟩ false hm).mono ?_
  rintro e u107 ⟨rfl, k107⟩
  replace BX := BX.keep k107
  obtain ⟨⟨q0, q1, q2⟩, _⟩ := cells3 BX w.heap.size _ _ _ _ (show (w.heap.size, DO n a zs.length c ex) ∈ _ by simp)
  clear k107
  clear hm
  go_wp2_with fail
  refine (lIs_err 2 0 rfl _).mono ?_
  rintro e u108 ⟨rfl, k108⟩
  replace BX := BX.keep k108
  obtain ⟨⟨q0, q1, q2⟩, _⟩ := cells3 BX w.heap.size _ _ _ _ (show (w.heap.size, DO n a zs.length c ex) ∈ _ by simp)
  clear k108
  go_wp2_with fail
  refine (lKnown _).mono ?_
  rintro e u109 ⟨rfl, k109⟩
  replace BX := BX.keep k109
  obtain ⟨⟨q0, q1, q2⟩, _⟩ := cells3 BX w.heap.size _ _ _ _ (show (w.heap.size, DO n a zs.length c ex) ∈ _ by simp)
  clear k109
  go_wp2
  go_ret
  exact ⟨rfl, BX.bel⟩
set_option maxHeartbeats 4000000 in
theorem values_fin_zero (b : Bool) (x : Int) (n : Bool) (a : Option Addr) (c : Nat) (zs : List Int) (ex : Int) (hzero : n = false ∧ zs = [] ∧ ex = 0) (hlen : (zs.length : Int) ≤ 4100) (h : Ok b x) (hf : sz b x < inf b)  (w : World) (u : DLie w a zs) (hT : Tab w) :
    Calls Tryd.prog 16 #[.int .u8 (fm b), .int .u64 x, dV n a zs.length c ex] w fun e w' => e = .returned (.bool true) ∧ Below w.heap.size w w' := by
  obtain ⟨rfl, rfl, rfl⟩ := hzero
  have BX := (Bx.nil w).push (DO false a ([] : List Int).length c 0)
  go_enter Tryd.func16, Tryd.ntmps16
  go_wp2_with fail
  refine (rGood b x h _).mono ?_
  rintro e u110 ⟨rfl, k110⟩
  replace BX := BX.keep k110
  obtain ⟨⟨q0, q1, q2⟩, _⟩ := cells3 BX w.heap.size _ _ _ _ (show (w.heap.size, DO false a ([] : List Int).length c 0) ∈ _ by simp)
  clear k110
  go_wp2_with fail
  refine (wValue b x h hf _ (hT.below BX.bel (Nat.le_refl _))).mono ?_
  rintro e u111 ⟨nv, zv, xv, av, cv, rfl, dV1⟩
  replace BX := BX.keep dV1.bel
  have lv := dV1.lie
  have NV := Hide.mk dV1.num
  clear dV1
  obtain ⟨⟨q0, q1, q2⟩, _⟩ := cells3 BX w.heap.size _ _ _ _ (show (w.heap.size, DO false a ([] : List Int).length c 0) ∈ _ by simp)
  have hlt111 : w.heap.size < u111.heap.size := BX.lt (p := (w.heap.size, DO false a ([] : List Int).length c 0)) (by simp)
  replace BX := BX.push (DO nv av zv.length cv xv)
  replace lv := lv.below (below_alloc u111 (DO nv av zv.length cv xv)) (Nat.le_refl _)
  go_wp2_with fail
  generalize hw111 : u111.alloc (DO nv av zv.length cv xv) = wa at *
  clear hw111
  refine (wUnit b x h hf _ (hT.below BX.bel (Nat.le_refl _))).mono ?_
  rintro e u112 ⟨nu, zu, xu, au, cu, rfl, dV2⟩
  replace BX := BX.keep dV2.bel
  replace lv := lv.below dV2.bel (Nat.le_refl _)
  have lu := dV2.lie
  have NU := Hide.mk dV2.num
  clear dV2
  have hlt112 : w.heap.size < u112.heap.size := BX.lt (p := (w.heap.size, DO false a ([] : List Int).length c 0)) (by simp)
  have hlu : u111.heap.size < u112.heap.size := BX.lt (.head _)
  replace BX := BX.push (DO nu au zu.length cu xu)
  replace lv := lv.below (below_alloc u112 (DO nu au zu.length cu xu)) (Nat.le_refl _)
  replace lu := lu.below (below_alloc u112 (DO nu au zu.length cu xu)) (Nat.le_refl _)
  go_wp2_with fail
  generalize hw112 : u112.alloc (DO nu au zu.length cu xu) = wb at *
  clear hw112
  refine (rFinite b x h hf _).mono ?_
  rintro e u113 ⟨rfl, k113⟩
  replace BX := BX.keep k113
  replace lv := lv.below k113 (Nat.le_refl _)
  replace lu := lu.below k113 (Nat.le_refl _)
  clear k113
  go_wp2_with fail
  have HI := BX.drew
  replace lv : Lie u113.drew av zv := lv
  replace lu : Lie u113.drew au zu := lu
  have sh := fun W (hW : Bx w [(u112.heap.size, DO nu au zu.length cu xu), (u111.heap.size, DO nv av zv.length cv xv), (w.heap.size, DO false a ([] : List Int).length c 0)] W) => And.intro (cells3 hW u112.heap.size _ _ _ _ (.head _)).1 (cells3 hW u111.heap.size _ _ _ _ (.tail _ (.head _))).1
  refine Drawn.enter (Bx w [(u112.heap.size, DO nu au zu.length cu xu), (u111.heap.size, DO nv av zv.length cv xv), (w.heap.size, DO false a ([] : List Int).length c 0)]) (by kernel_rfl) ?_
  refine Drawn.take (i := 0) (v := ?v8) rfl (by kernel_rfl) (by kernel_rfl) (by kernel_rfl) (fun _ _ _ h => h) (by kernel_rfl) (fun W hW => ?_) HI ?_
  rotate_left
  · have ⟨⟨s0, s1, s2⟩, p0, p1, p2⟩ := sh W hW
    go_simp <;> exact rfl
  refine Drawn.take (i := 1) (v := ?v9) rfl (by kernel_rfl) (by kernel_rfl) (by kernel_rfl) (fun _ _ _ h => h) (by kernel_rfl) (fun W hW => ?_) HI ?_
  rotate_left
  · have ⟨⟨s0, s1, s2⟩, p0, p1, p2⟩ := sh W hW
    go_simp <;> exact rfl
  refine Drawn.take (i := 2) (v := ?v10) rfl (by kernel_rfl) (by kernel_rfl) (by kernel_rfl) (fun _ _ _ h => h) (by kernel_rfl) (fun W hW => ?_) HI ?_
  rotate_left
  · have ⟨⟨s0, s1, s2⟩, p0, p1, p2⟩ := sh W hW
    go_simp <;> exact rfl
  refine Drawn.one (j := 3) (by kernel_rfl) rfl (fun K hK => ?_)
  go_simp
  refine (rValue b x h _).mono ?_
  rintro e wn ⟨n3, z3, x3, a3, c3, rfl, N3, l3, hn⟩
  refine hK _ _ (HI.keep hn) ?_
  clear hK K
  replace HI := HI.keep hn
  replace lv := lv.below hn (Nat.le_refl _)
  replace lu := lu.below hn (Nat.le_refl _)
  clear hn
  refine Drawn.one (j := 4) (by kernel_rfl) rfl (fun K hK => ?_)
  go_simp
  refine (same_num nv n3 av a3 cv c3 zv z3 xv x3 _ _ NV.out N3 lv l3).mono ?_
  rintro e wm ⟨rfl, hn⟩
  refine hK _ _ (HI.keep hn) ?_
  clear hK K
  replace HI := HI.keep hn
  replace lu := lu.below hn (Nat.le_refl _)
  clear hn N3 l3 lv NV
  refine Drawn.take (i := 5) (v := .bool false) rfl (by kernel_rfl) (by kernel_rfl) (by kernel_rfl) (fun _ _ _ h => h) (by kernel_rfl) (fun W hW => ?_) HI ?_
  · have ⟨⟨s0, s1, s2⟩, p0, p1, p2⟩ := sh W hW
    go_simp <;> (rfl)
  refine Drawn.take (i := 6) (v := ?v11) rfl (by kernel_rfl) (by kernel_rfl) (by kernel_rfl) (fun _ _ _ h => h) (by kernel_rfl) (fun W hW => ?_) HI ?_
  rotate_left
  · have ⟨⟨s0, s1, s2⟩, p0, p1, p2⟩ := sh W hW
    go_simp <;> exact rfl
  refine Drawn.take (i := 7) (v := ?v12) rfl (by kernel_rfl) (by kernel_rfl) (by kernel_rfl) (fun _ _ _ h => h) (by kernel_rfl) (fun W hW => ?_) HI ?_
  rotate_left
  · have ⟨⟨s0, s1, s2⟩, p0, p1, p2⟩ := sh W hW
    go_simp <;> exact rfl
  refine Drawn.take (i := 8) (v := ?v13) rfl (by kernel_rfl) (by kernel_rfl) (by kernel_rfl) (fun _ _ _ h => h) (by kernel_rfl) (fun W hW => ?_) HI ?_
  rotate_left
  · have ⟨⟨s0, s1, s2⟩, p0, p1, p2⟩ := sh W hW
    go_simp <;> exact rfl
  refine Drawn.take (i := 9) (v := ?v14) rfl (by kernel_rfl) (by kernel_rfl) (by kernel_rfl) (fun _ _ _ h => h) (by kernel_rfl) (fun W hW => ?_) HI ?_
  rotate_left
  · have ⟨⟨s0, s1, s2⟩, p0, p1, p2⟩ := sh W hW
    go_simp <;> exact rfl
  refine Drawn.one (j := 10) (by kernel_rfl) rfl (fun K hK => ?_)
  go_simp
  refine (rUnit b x h _).mono ?_
  rintro e wn ⟨n3, z3, x3, a3, c3, rfl, N3, l3, hn⟩
  refine hK _ _ (HI.keep hn) ?_
  clear hK K
  replace HI := HI.keep hn
  replace lu := lu.below hn (Nat.le_refl _)
  clear hn
  refine Drawn.one (j := 11) (by kernel_rfl) rfl (fun K hK => ?_)
  go_simp
  refine (same_num nu n3 au a3 cu c3 zu z3 xu x3 _ _ NU.out N3 lu l3).mono ?_
  rintro e wm2 ⟨rfl, hn⟩
  refine hK _ _ (HI.keep hn) ?_
  clear hK K
  replace HI := HI.keep hn
  clear hn N3 l3 lu NU
  refine Drawn.take (i := 12) (v := .bool false) rfl (by kernel_rfl) (by kernel_rfl) (by kernel_rfl) (fun _ _ _ h => h) (by kernel_rfl) (fun W hW => ?_) HI ?_
  · have ⟨⟨s0, s1, s2⟩, p0, p1, p2⟩ := sh W hW
    go_simp <;> (rfl)
  refine Drawn.take (i := 13) (v := ?v15) rfl (by kernel_rfl) (by kernel_rfl) (by kernel_rfl) (fun _ _ _ h => h) (by kernel_rfl) (fun W hW => ?_) HI ?_
  rotate_left
  · have ⟨⟨s0, s1, s2⟩, p0, p1, p2⟩ := sh W hW
    go_simp <;> exact rfl
  refine Drawn.done (by kernel_rfl) ?_
  try go_simp
  replace BX := HI
  clear HI sh
  obtain ⟨⟨q0, q1, q2⟩, _⟩ := cells3 BX w.heap.size _ _ _ _ (show (w.heap.size, DO false a ([] : List Int).length c 0) ∈ _ by simp)
  go_wp2_with fail
  refine (wOf_zero b a c _).mono ?_
  rintro e u114 ⟨rfl, k114⟩
  replace BX := BX.keep k114
  obtain ⟨⟨q0, q1, q2⟩, _⟩ := cells3 BX w.heap.size _ _ _ _ (show (w.heap.size, DO false a ([] : List Int).length c 0) ∈ _ by simp)
  clear k114
  go_wp2_with fail
  refine (rIs b _).mono ?_
  rintro e u115 ⟨rfl, k115⟩
  replace BX := BX.keep k115
  obtain ⟨⟨q0, q1, q2⟩, _⟩ := cells3 BX w.heap.size _ _ _ _ (show (w.heap.size, DO false a ([] : List Int).length c 0) ∈ _ by simp)
  clear k115
  go_wp2_with fail
  refine (drefmay37 false a c [] 0 _ ⟨u.lie.below BX.bel (Nat.le_refl _), u.len, u.rng⟩ true rfl).mono ?_
  rintro e u116 ⟨rfl, k116⟩
  replace BX := BX.keep k116
  obtain ⟨⟨q0, q1, q2⟩, _⟩ := cells3 BX w.heap.size _ _ _ _ (show (w.heap.size, DO false a ([] : List Int).length c 0) ∈ _ by simp)
  clear k116
  go_wp2_with fail
  refine (rOf_zero b a c _).mono ?_
  rintro e u117 ⟨rfl, k117⟩
  replace BX := BX.keep k117
  obtain ⟨⟨q0, q1, q2⟩, _⟩ := cells3 BX w.heap.size _ _ _ _ (show (w.heap.size, DO false a ([] : List Int).length c 0) ∈ _ by simp)
  clear k117
  go_wp2_with fail
  refine (lIs _ _).mono ?_
  rintro e u118 ⟨rfl, k118⟩
  replace BX := BX.keep k118
  obtain ⟨⟨q0, q1, q2⟩, _⟩ := cells3 BX w.heap.size _ _ _ _ (show (w.heap.size, DO false a ([] : List Int).length c 0) ∈ _ by simp)
  clear k118
  go_wp2_with fail
  refine (lKnown _).mono ?_
  rintro e u119 ⟨rfl, k119⟩
  replace BX := BX.keep k119
  obtain ⟨⟨q0, q1, q2⟩, _⟩ := cells3 BX w.heap.size _ _ _ _ (show (w.heap.size, DO false a ([] : List Int).length c 0) ∈ _ by simp)
  clear k119
  go_wp2
  go_ret
  exact ⟨rfl, BX.bel⟩
set_option maxHeartbeats 4000000 in
theorem values_fin_none (b : Bool) (x : Int) (n : Bool) (a : Option Addr) (c : Nat) (zs : List Int) (ex : Int) (hlen : (zs.length : Int) ≤ 4100) (h : Ok b x) (hf : sz b x < inf b) (g : DG n zs ex) (hz : 0 < zs.length) {B : Nat} (hB : BitLen (Nt.val zs) B) (hbb : B ≤ 131072) (hc : tp b ≤ uu b (B + ex) - lo b + 1 ∨ ex < uu b (B + ex)) (w : World) (u : DLie w a zs) (hT : Tab w) :
    Calls Tryd.prog 16 #[.int .u8 (fm b), .int .u64 x, dV n a zs.length c ex] w fun e w' => e = .returned (.bool true) ∧ Below w.heap.size w w' := by
  have BX := (Bx.nil w).push (DO n a zs.length c ex)
  go_enter Tryd.func16, Tryd.ntmps16
  go_wp2_with fail
  refine (rGood b x h _).mono ?_
  rintro e u120 ⟨rfl, k120⟩
  replace BX := BX.keep k120
  obtain ⟨⟨q0, q1, q2⟩, _⟩ := cells3 BX w.heap.size _ _ _ _ (show (w.heap.size, DO n a zs.length c ex) ∈ _ by simp)
  clear k120
  go_wp2_with fail
  refine (wValue b x h hf _ (hT.below BX.bel (Nat.le_refl _))).mono ?_
  rintro e u121 ⟨nv, zv, xv, av, cv, rfl, dV1⟩
  replace BX := BX.keep dV1.bel
  have lv := dV1.lie
  have NV := Hide.mk dV1.num
  clear dV1
  obtain ⟨⟨q0, q1, q2⟩, _⟩ := cells3 BX w.heap.size _ _ _ _ (show (w.heap.size, DO n a zs.length c ex) ∈ _ by simp)
  have hlt121 : w.heap.size < u121.heap.size := BX.lt (p := (w.heap.size, DO n a zs.length c ex)) (by simp)
  replace BX := BX.push (DO nv av zv.length cv xv)
  replace lv := lv.below (below_alloc u121 (DO nv av zv.length cv xv)) (Nat.le_refl _)
  go_wp2_with fail
  generalize hw121 : u121.alloc (DO nv av zv.length cv xv) = wa at *
  clear hw121
  refine (wUnit b x h hf _ (hT.below BX.bel (Nat.le_refl _))).mono ?_
  rintro e u122 ⟨nu, zu, xu, au, cu, rfl, dV2⟩
  replace BX := BX.keep dV2.bel
  replace lv := lv.below dV2.bel (Nat.le_refl _)
  have lu := dV2.lie
  have NU := Hide.mk dV2.num
  clear dV2
  have hlt122 : w.heap.size < u122.heap.size := BX.lt (p := (w.heap.size, DO n a zs.length c ex)) (by simp)
  have hlu : u121.heap.size < u122.heap.size := BX.lt (.head _)
  replace BX := BX.push (DO nu au zu.length cu xu)
  replace lv := lv.below (below_alloc u122 (DO nu au zu.length cu xu)) (Nat.le_refl _)
  replace lu := lu.below (below_alloc u122 (DO nu au zu.length cu xu)) (Nat.le_refl _)
  go_wp2_with fail
  generalize hw122 : u122.alloc (DO nu au zu.length cu xu) = wb at *
  clear hw122
  refine (rFinite b x h hf _).mono ?_
  rintro e u123 ⟨rfl, k123⟩
  replace BX := BX.keep k123
  replace lv := lv.below k123 (Nat.le_refl _)
  replace lu := lu.below k123 (Nat.le_refl _)
  clear k123
  go_wp2_with fail
  have HI := BX.drew
  replace lv : Lie u123.drew av zv := lv
  replace lu : Lie u123.drew au zu := lu
  have sh := fun W (hW : Bx w [(u122.heap.size, DO nu au zu.length cu xu), (u121.heap.size, DO nv av zv.length cv xv), (w.heap.size, DO n a zs.length c ex)] W) => And.intro (cells3 hW u122.heap.size _ _ _ _ (.head _)).1 (cells3 hW u121.heap.size _ _ _ _ (.tail _ (.head _))).1
  refine Drawn.enter (Bx w [(u122.heap.size, DO nu au zu.length cu xu), (u121.heap.size, DO nv av zv.length cv xv), (w.heap.size, DO n a zs.length c ex)]) (by kernel_rfl) ?_
  refine Drawn.take (i := 0) (v := ?v16) rfl (by kernel_rfl) (by kernel_rfl) (by kernel_rfl) (fun _ _ _ h => h) (by kernel_rfl) (fun W hW => ?_) HI ?_
  rotate_left
  · have ⟨⟨s0, s1, s2⟩, p0, p1, p2⟩ := sh W hW
    go_simp <;> exact rfl
  refine Drawn.take (i := 1) (v := ?v17) rfl (by kernel_rfl) (by kernel_rfl) (by kernel_rfl) (fun _ _ _ h => h) (by kernel_rfl) (fun W hW => ?_) HI ?_
  rotate_left
  · have ⟨⟨s0, s1, s2⟩, p0, p1, p2⟩ := sh W hW
    go_simp <;> exact rfl
  refine Drawn.take (i := 2) (v := ?v18) rfl (by kernel_rfl) (by kernel_rfl) (by kernel_rfl) (fun _ _ _ h => h) (by kernel_rfl) (fun W hW => ?_) HI ?_
  rotate_left
  · have ⟨⟨s0, s1, s2⟩, p0, p1, p2⟩ := sh W hW
    go_simp <;> exact rfl
  refine Drawn.one (j := 3) (by kernel_rfl) rfl (fun K hK => ?_)
  go_simp
  refine (rValue b x h _).mono ?_
  rintro e wn ⟨n3, z3, x3, a3, c3, rfl, N3, l3, hn⟩
  refine hK _ _ (HI.keep hn) ?_
  clear hK K
  replace HI := HI.keep hn
  replace lv := lv.below hn (Nat.le_refl _)
  replace lu := lu.below hn (Nat.le_refl _)
  clear hn
  refine Drawn.one (j := 4) (by kernel_rfl) rfl (fun K hK => ?_)
  go_simp
  refine (same_num nv n3 av a3 cv c3 zv z3 xv x3 _ _ NV.out N3 lv l3).mono ?_
  rintro e wm ⟨rfl, hn⟩
  refine hK _ _ (HI.keep hn) ?_
  clear hK K
  replace HI := HI.keep hn
  replace lu := lu.below hn (Nat.le_refl _)
  clear hn N3 l3 lv NV
  refine Drawn.take (i := 5) (v := .bool false) rfl (by kernel_rfl) (by kernel_rfl) (by kernel_rfl) (fun _ _ _ h => h) (by kernel_rfl) (fun W hW => ?_) HI ?_
  · have ⟨⟨s0, s1, s2⟩, p0, p1, p2⟩ := sh W hW
    go_simp <;> (rfl)
  refine Drawn.take (i := 6) (v := ?v19) rfl (by kernel_rfl) (by kernel_rfl) (by kernel_rfl) (fun _ _ _ h => h) (by kernel_rfl) (fun W hW => ?_) HI ?_
  rotate_left
  · have ⟨⟨s0, s1, s2⟩, p0, p1, p2⟩ := sh W hW
    go_simp <;> exact rfl
  refine Drawn.take (i := 7) (v := ?v20) rfl (by kernel_rfl) (by kernel_rfl) (by kernel_rfl) (fun _ _ _ h => h) (by kernel_rfl) (fun W hW => ?_) HI ?_
  rotate_left
  · have ⟨⟨s0, s1, s2⟩, p0, p1, p2⟩ := sh W hW
    go_simp <;> exact rfl
  refine Drawn.take (i := 8) (v := ?v21) rfl (by kernel_rfl) (by kernel_rfl) (by kernel_rfl) (fun _ _ _ h => h) (by kernel_rfl) (fun W hW => ?_) HI ?_
  rotate_left
  · have ⟨⟨s0, s1, s2⟩, p0, p1, p2⟩ := sh W hW
    go_simp <;> exact rfl
  refine Drawn.take (i := 9) (v := ?v22) rfl (by kernel_rfl) (by kernel_rfl) (by kernel_rfl) (fun _ _ _ h => h) (by kernel_rfl) (fun W hW => ?_) HI ?_
  rotate_left
  · have ⟨⟨s0, s1, s2⟩, p0, p1, p2⟩ := sh W hW
    go_simp <;> exact rfl
  refine Drawn.one (j := 10) (by kernel_rfl) rfl (fun K hK => ?_)
  go_simp
  refine (rUnit b x h _).mono ?_
  rintro e wn ⟨n3, z3, x3, a3, c3, rfl, N3, l3, hn⟩
  refine hK _ _ (HI.keep hn) ?_
  clear hK K
  replace HI := HI.keep hn
  replace lu := lu.below hn (Nat.le_refl _)
  clear hn
  refine Drawn.one (j := 11) (by kernel_rfl) rfl (fun K hK => ?_)
  go_simp
  refine (same_num nu n3 au a3 cu c3 zu z3 xu x3 _ _ NU.out N3 lu l3).mono ?_
  rintro e wm2 ⟨rfl, hn⟩
  refine hK _ _ (HI.keep hn) ?_
  clear hK K
  replace HI := HI.keep hn
  clear hn N3 l3 lu NU
  refine Drawn.take (i := 12) (v := .bool false) rfl (by kernel_rfl) (by kernel_rfl) (by kernel_rfl) (fun _ _ _ h => h) (by kernel_rfl) (fun W hW => ?_) HI ?_
  · have ⟨⟨s0, s1, s2⟩, p0, p1, p2⟩ := sh W hW
    go_simp <;> (rfl)
  refine Drawn.take (i := 13) (v := ?v23) rfl (by kernel_rfl) (by kernel_rfl) (by kernel_rfl) (fun _ _ _ h => h) (by kernel_rfl) (fun W hW => ?_) HI ?_
  rotate_left
  · have ⟨⟨s0, s1, s2⟩, p0, p1, p2⟩ := sh W hW
    go_simp <;> exact rfl
  refine Drawn.done (by kernel_rfl) ?_
  try go_simp
  replace BX := HI
  clear HI sh
  obtain ⟨⟨q0, q1, q2⟩, _⟩ := cells3 BX w.heap.size _ _ _ _ (show (w.heap.size, DO n a zs.length c ex) ∈ _ by simp)
  go_wp2_with fail
  refine (wOf_no b n a c zs ex _ (u.lie.below BX.bel (Nat.le_refl _)) g hz hB hbb hc).mono ?_
  rintro e u124 ⟨rfl, k124⟩
  replace BX := BX.keep k124
  obtain ⟨⟨q0, q1, q2⟩, _⟩ := cells3 BX w.heap.size _ _ _ _ (show (w.heap.size, DO n a zs.length c ex) ∈ _ by simp)
  clear k124
  go_wp2_with fail
  refine (rIs b _).mono ?_
  rintro e u125 ⟨rfl, k125⟩
  replace BX := BX.keep k125
  obtain ⟨⟨q0, q1, q2⟩, _⟩ := cells3 BX w.heap.size _ _ _ _ (show (w.heap.size, DO n a zs.length c ex) ∈ _ by simp)
  clear k125
  go_wp2_with fail
  refine (drefmay37 n a c zs ex _ ⟨u.lie.below BX.bel (Nat.le_refl _), u.len, u.rng⟩ true g.may).mono ?_
  rintro e u126 ⟨rfl, k126⟩
  replace BX := BX.keep k126
  obtain ⟨⟨q0, q1, q2⟩, _⟩ := cells3 BX w.heap.size _ _ _ _ (show (w.heap.size, DO n a zs.length c ex) ∈ _ by simp)
  clear k126
  go_wp2_with fail
  refine (rOf_no b n a c zs ex _ (u.lie.below BX.bel (Nat.le_refl _)) g hz hB hbb hc).mono ?_
  rintro e u127 ⟨rfl, k127⟩
  replace BX := BX.keep k127
  obtain ⟨⟨q0, q1, q2⟩, _⟩ := cells3 BX w.heap.size _ _ _ _ (show (w.heap.size, DO n a zs.length c ex) ∈ _ by simp)
  clear k127
  go_wp2_with fail
  refine (lIs_err 7 _ rfl _).mono ?_
  rintro e u128 ⟨rfl, k128⟩
  replace BX := BX.keep k128
  obtain ⟨⟨q0, q1, q2⟩, _⟩ := cells3 BX w.heap.size _ _ _ _ (show (w.heap.size, DO n a zs.length c ex) ∈ _ by simp)
  clear k128
  go_wp2_with fail
  refine (lKnown _).mono ?_
  rintro e u129 ⟨rfl, k129⟩
  replace BX := BX.keep k129
  obtain ⟨⟨q0, q1, q2⟩, _⟩ := cells3 BX w.heap.size _ _ _ _ (show (w.heap.size, DO n a zs.length c ex) ∈ _ by simp)
  clear k129
  go_wp2
  go_ret
  exact ⟨rfl, BX.bel⟩
set_option maxHeartbeats 4000000 in
theorem values_fin_ok (b : Bool) (x : Int) (n : Bool) (a : Option Addr) (c : Nat) (zs : List Int) (ex : Int) (hlen : (zs.length : Int) ≤ 4100) (h : Ok b x) (hf : sz b x < inf b) (g : DG n zs ex) (hz : 0 < zs.length) {B : Nat} (hB : BitLen (Nt.val zs) B) (hbb : B ≤ 131072) (hc1 : uu b (B + ex) - lo b + 1 < tp b) (hc2 : uu b (B + ex) ≤ ex) (k : Nat) (hk : (k : Int) = ex - uu b (B + ex)) (w : World) (u : DLie w a zs) (hT : Tab w) :
    Calls Tryd.prog 16 #[.int .u8 (fm b), .int .u64 x, dV n a zs.length c ex] w fun e w' => e = .returned (.bool true) ∧ Below w.heap.size w w' := by
  have BX := (Bx.nil w).push (DO n a zs.length c ex)
  go_enter Tryd.func16, Tryd.ntmps16
  go_wp2_with fail
  refine (rGood b x h _).mono ?_
  rintro e u130 ⟨rfl, k130⟩
  replace BX := BX.keep k130
  obtain ⟨⟨q0, q1, q2⟩, _⟩ := cells3 BX w.heap.size _ _ _ _ (show (w.heap.size, DO n a zs.length c ex) ∈ _ by simp)
  clear k130
  go_wp2_with fail
  refine (wValue b x h hf _ (hT.below BX.bel (Nat.le_refl _))).mono ?_
  rintro e u131 ⟨nv, zv, xv, av, cv, rfl, dV1⟩
  replace BX := BX.keep dV1.bel
  have lv := dV1.lie
  have NV := Hide.mk dV1.num
  clear dV1
  obtain ⟨⟨q0, q1, q2⟩, _⟩ := cells3 BX w.heap.size _ _ _ _ (show (w.heap.size, DO n a zs.length c ex) ∈ _ by simp)
  have hlt131 : w.heap.size < u131.heap.size := BX.lt (p := (w.heap.size, DO n a zs.length c ex)) (by simp)
  replace BX := BX.push (DO nv av zv.length cv xv)
  replace lv := lv.below (below_alloc u131 (DO nv av zv.length cv xv)) (Nat.le_refl _)
  go_wp2_with fail
  generalize hw131 : u131.alloc (DO nv av zv.length cv xv) = wa at *
  clear hw131
  refine (wUnit b x h hf _ (hT.below BX.bel (Nat.le_refl _))).mono ?_
  rintro e u132 ⟨nu, zu, xu, au, cu, rfl, dV2⟩
  replace BX := BX.keep dV2.bel
  replace lv := lv.below dV2.bel (Nat.le_refl _)
  have lu := dV2.lie
  have NU := Hide.mk dV2.num
  clear dV2
  have hlt132 : w.heap.size < u132.heap.size := BX.lt (p := (w.heap.size, DO n a zs.length c ex)) (by simp)
  have hlu : u131.heap.size < u132.heap.size := BX.lt (.head _)
  replace BX := BX.push (DO nu au zu.length cu xu)
  replace lv := lv.below (below_alloc u132 (DO nu au zu.length cu xu)) (Nat.le_refl _)
  replace lu := lu.below (below_alloc u132 (DO nu au zu.length cu xu)) (Nat.le_refl _)
  go_wp2_with fail
  generalize hw132 : u132.alloc (DO nu au zu.length cu xu) = wb at *
  clear hw132
  refine (rFinite b x h hf _).mono ?_
  rintro e u133 ⟨rfl, k133⟩
  replace BX := BX.keep k133
  replace lv := lv.below k133 (Nat.le_refl _)
  replace lu := lu.below k133 (Nat.le_refl _)
  clear k133
  go_wp2_with fail
  have HI := BX.drew
  replace lv : Lie u133.drew av zv := lv
  replace lu : Lie u133.drew au zu := lu
  have sh := fun W (hW : Bx w [(u132.heap.size, DO nu au zu.length cu xu), (u131.heap.size, DO nv av zv.length cv xv), (w.heap.size, DO n a zs.length c ex)] W) => And.intro (cells3 hW u132.heap.size _ _ _ _ (.head _)).1 (cells3 hW u131.heap.size _ _ _ _ (.tail _ (.head _))).1
  refine Drawn.enter (Bx w [(u132.heap.size, DO nu au zu.length cu xu), (u131.heap.size, DO nv av zv.length cv xv), (w.heap.size, DO n a zs.length c ex)]) (by kernel_rfl) ?_
  refine Drawn.take (i := 0) (v := ?v24) rfl (by kernel_rfl) (by kernel_rfl) (by kernel_rfl) (fun _ _ _ h => h) (by kernel_rfl) (fun W hW => ?_) HI ?_
  rotate_left
  · have ⟨⟨s0, s1, s2⟩, p0, p1, p2⟩ := sh W hW
    go_simp <;> exact rfl
  refine Drawn.take (i := 1) (v := ?v25) rfl (by kernel_rfl) (by kernel_rfl) (by kernel_rfl) (fun _ _ _ h => h) (by kernel_rfl) (fun W hW => ?_) HI ?_
  rotate_left
  · have ⟨⟨s0, s1, s2⟩, p0, p1, p2⟩ := sh W hW
    go_simp <;> exact rfl
  refine Drawn.take (i := 2) (v := ?v26) rfl (by kernel_rfl) (by kernel_rfl) (by kernel_rfl) (fun _ _ _ h => h) (by kernel_rfl) (fun W hW => ?_) HI ?_
  rotate_left
  · have ⟨⟨s0, s1, s2⟩, p0, p1, p2⟩ := sh W hW
    go_simp <;> exact rfl
  refine Drawn.one (j := 3) (by kernel_rfl) rfl (fun K hK => ?_)
  go_simp
  refine (rValue b x h _).mono ?_
  rintro e wn ⟨n3, z3, x3, a3, c3, rfl, N3, l3, hn⟩
  refine hK _ _ (HI.keep hn) ?_
  clear hK K
  replace HI := HI.keep hn
  replace lv := lv.below hn (Nat.le_refl _)
  replace lu := lu.below hn (Nat.le_refl _)
  clear hn
  refine Drawn.one (j := 4) (by kernel_rfl) rfl (fun K hK => ?_)
  go_simp
  refine (same_num nv n3 av a3 cv c3 zv z3 xv x3 _ _ NV.out N3 lv l3).mono ?_
  rintro e wm ⟨rfl, hn⟩
  refine hK _ _ (HI.keep hn) ?_
  clear hK K
  replace HI := HI.keep hn
  replace lu := lu.below hn (Nat.le_refl _)
  clear hn N3 l3 lv NV
  refine Drawn.take (i := 5) (v := .bool false) rfl (by kernel_rfl) (by kernel_rfl) (by kernel_rfl) (fun _ _ _ h => h) (by kernel_rfl) (fun W hW => ?_) HI ?_
  · have ⟨⟨s0, s1, s2⟩, p0, p1, p2⟩ := sh W hW
    go_simp <;> (rfl)
  refine Drawn.take (i := 6) (v := ?v27) rfl (by kernel_rfl) (by kernel_rfl) (by kernel_rfl) (fun _ _ _ h => h) (by kernel_rfl) (fun W hW => ?_) HI ?_
  rotate_left
  · have ⟨⟨s0, s1, s2⟩, p0, p1, p2⟩ := sh W hW
    go_simp <;> exact rfl
  refine Drawn.take (i := 7) (v := ?v28) rfl (by kernel_rfl) (by kernel_rfl) (by kernel_rfl) (fun _ _ _ h => h) (by kernel_rfl) (fun W hW => ?_) HI ?_
  rotate_left
  · have ⟨⟨s0, s1, s2⟩, p0, p1, p2⟩ := sh W hW
    go_simp <;> exact rfl
  refine Drawn.take (i := 8) (v := ?v29) rfl (by kernel_rfl) (by kernel_rfl) (by kernel_rfl) (fun _ _ _ h => h) (by kernel_rfl) (fun W hW => ?_) HI ?_
  rotate_left
  · have ⟨⟨s0, s1, s2⟩, p0, p1, p2⟩ := sh W hW
    go_simp <;> exact rfl
  refine Drawn.take (i := 9) (v := ?v30) rfl (by kernel_rfl) (by kernel_rfl) (by kernel_rfl) (fun _ _ _ h => h) (by kernel_rfl) (fun W hW => ?_) HI ?_
  rotate_left
  · have ⟨⟨s0, s1, s2⟩, p0, p1, p2⟩ := sh W hW
    go_simp <;> exact rfl
  refine Drawn.one (j := 10) (by kernel_rfl) rfl (fun K hK => ?_)
  go_simp
  refine (rUnit b x h _).mono ?_
  rintro e wn ⟨n3, z3, x3, a3, c3, rfl, N3, l3, hn⟩
  refine hK _ _ (HI.keep hn) ?_
  clear hK K
  replace HI := HI.keep hn
  replace lu := lu.below hn (Nat.le_refl _)
  clear hn
  refine Drawn.one (j := 11) (by kernel_rfl) rfl (fun K hK => ?_)
  go_simp
  refine (same_num nu n3 au a3 cu c3 zu z3 xu x3 _ _ NU.out N3 lu l3).mono ?_
  rintro e wm2 ⟨rfl, hn⟩
  refine hK _ _ (HI.keep hn) ?_
  clear hK K
  replace HI := HI.keep hn
  clear hn N3 l3 lu NU
  refine Drawn.take (i := 12) (v := .bool false) rfl (by kernel_rfl) (by kernel_rfl) (by kernel_rfl) (fun _ _ _ h => h) (by kernel_rfl) (fun W hW => ?_) HI ?_
  · have ⟨⟨s0, s1, s2⟩, p0, p1, p2⟩ := sh W hW
    go_simp <;> (rfl)
  refine Drawn.take (i := 13) (v := ?v31) rfl (by kernel_rfl) (by kernel_rfl) (by kernel_rfl) (fun _ _ _ h => h) (by kernel_rfl) (fun W hW => ?_) HI ?_
  rotate_left
  · have ⟨⟨s0, s1, s2⟩, p0, p1, p2⟩ := sh W hW
    go_simp <;> exact rfl
  refine Drawn.done (by kernel_rfl) ?_
  try go_simp
  replace BX := HI
  clear HI sh
  obtain ⟨⟨q0, q1, q2⟩, _⟩ := cells3 BX w.heap.size _ _ _ _ (show (w.heap.size, DO n a zs.length c ex) ∈ _ by simp)
  go_wp2_with fail
  refine (wOf_ok b n a c zs ex _ (u.lie.below BX.bel (Nat.le_refl _)) g hz hB hbb hc1 hc2 k hk).mono ?_
  rintro e u134 ⟨rfl, k134⟩
  replace BX := BX.keep k134
  obtain ⟨⟨q0, q1, q2⟩, _⟩ := cells3 BX w.heap.size _ _ _ _ (show (w.heap.size, DO n a zs.length c ex) ∈ _ by simp)
  clear k134
  go_wp2_with fail
  refine (rIs b _).mono ?_
  rintro e u135 ⟨rfl, k135⟩
  replace BX := BX.keep k135
  obtain ⟨⟨q0, q1, q2⟩, _⟩ := cells3 BX w.heap.size _ _ _ _ (show (w.heap.size, DO n a zs.length c ex) ∈ _ by simp)
  clear k135
  go_wp2_with fail
  refine (drefmay37 n a c zs ex _ ⟨u.lie.below BX.bel (Nat.le_refl _), u.len, u.rng⟩ true g.may).mono ?_
  rintro e u136 ⟨rfl, k136⟩
  replace BX := BX.keep k136
  obtain ⟨⟨q0, q1, q2⟩, _⟩ := cells3 BX w.heap.size _ _ _ _ (show (w.heap.size, DO n a zs.length c ex) ∈ _ by simp)
  clear k136
  go_wp2_with fail
  refine (rOf_ok b n a c zs ex _ (u.lie.below BX.bel (Nat.le_refl _)) g hz hB hbb hc1 hc2 k hk).mono ?_
  rintro e u137 ⟨rfl, k137⟩
  replace BX := BX.keep k137
  obtain ⟨⟨q0, q1, q2⟩, _⟩ := cells3 BX w.heap.size _ _ _ _ (show (w.heap.size, DO n a zs.length c ex) ∈ _ by simp)
  clear k137
  go_wp2_with fail
  refine (lIs _ _).mono ?_
  rintro e u138 ⟨rfl, k138⟩
  replace BX := BX.keep k138
  obtain ⟨⟨q0, q1, q2⟩, _⟩ := cells3 BX w.heap.size _ _ _ _ (show (w.heap.size, DO n a zs.length c ex) ∈ _ by simp)
  clear k138
  go_wp2_with fail
  refine (lKnown _).mono ?_
  rintro e u139 ⟨rfl, k139⟩
  replace BX := BX.keep k139
  obtain ⟨⟨q0, q1, q2⟩, _⟩ := cells3 BX w.heap.size _ _ _ _ (show (w.heap.size, DO n a zs.length c ex) ∈ _ by simp)
  clear k139
  go_wp2
  go_ret
  exact ⟨rfl, BX.bel⟩
theorem values_any (f x : Int) (n : Bool) (a : Option Addr) (c : Nat) (zs : List Int) (ex : Int) (hx0 : 0 ≤ x) (hx : x < 18446744073709551616) (w : World) (u : DLie w a zs) (hT : Tab w) :
    Calls Tryd.prog 16 #[.int .u8 f, .int .u64 x, dV n a zs.length c ex] w fun e w' => e = .returned (.bool true) ∧ Below w.heap.size w w' := by
  by_cases hlen : (zs.length : Int) ≤ 4100
  · by_cases hf : Bad f
    · exact values_bad f x n a c zs ex hlen hf hx w u hT
    · obtain ⟨b, rfl⟩ : ∃ b, f = fm b := by
        by_cases h1 : f = 1
        · exact ⟨false, h1⟩
        · by_cases h2 : f = 2
          · exact ⟨true, h2⟩
          · exact absurd ⟨h1, h2⟩ hf
      have key : GE (fm b) x 6 ∨ (Ok b x ∧ inf b ≤ sz b x) ∨ (Ok b x ∧ sz b x < inf b) := by
        by_cases c1 : x < 2 * sg b
        · by_cases c2 : inf b ≤ sz b x
          · exact .inr (.inl ⟨⟨hx0, c1⟩, c2⟩)
          · exact .inr (.inr ⟨⟨hx0, c1⟩, by omega⟩)
        · exact .inl (.inr ⟨b, rfl, by omega, rfl⟩)
      cases hm : dmayB n zs ex
      · rcases key with k1 | ⟨k1, k2⟩ | ⟨k1, k2⟩
        · exact values_long_arg b x n a c zs ex hlen k1 hx hm w u hT
        · exact values_inf_arg b x n a c zs ex hlen k1 k2 hm w u hT
        · exact values_fin_arg b x n a c zs ex hlen k1 k2 hm w u hT
      · have g := DG.of u.rng hm
        by_cases hz : 0 < zs.length
        · obtain ⟨B, hB⟩ := bitLen_ex g.good.nonneg
          have hbb : B ≤ 131072 := by
            rcases hB with ⟨_, rfl⟩ | ⟨_, h9⟩
            · omega
            · have h10 : Nt.val zs < 4294967296 ^ 4096 := g.good.lt.2
              have := h9.fits (n := 0) (by rw [Int.pow_zero, Int.mul_one]; exact h10)
              omega
          by_cases hc : tp b ≤ uu b (B + ex) - lo b + 1 ∨ ex < uu b (B + ex)
          · rcases key with k1 | ⟨k1, k2⟩ | ⟨k1, k2⟩
            · exact values_long_none b x n a c zs ex hlen k1 hx g hz hB hbb hc w u hT
            · exact values_inf_none b x n a c zs ex hlen k1 k2 g hz hB hbb hc w u hT
            · exact values_fin_none b x n a c zs ex hlen k1 k2 g hz hB hbb hc w u hT
          · have q1 : uu b (B + ex) - lo b + 1 < tp b := by omega
            have q2 : uu b (B + ex) ≤ ex := by omega
            have q3 : (((ex - uu b (B + ex)).toNat : Nat) : Int) = ex - uu b (B + ex) := by omega
            rcases key with k1 | ⟨k1, k2⟩ | ⟨k1, k2⟩
            · exact values_long_ok b x n a c zs ex hlen k1 hx g hz hB hbb q1 q2 _ q3 w u hT
            · exact values_inf_ok b x n a c zs ex hlen k1 k2 g hz hB hbb q1 q2 _ q3 w u hT
            · exact values_fin_ok b x n a c zs ex hlen k1 k2 g hz hB hbb q1 q2 _ q3 w u hT
        · obtain ⟨e1, e2, e3⟩ := g.nil (by omega)
          have hz0 : n = false ∧ zs = [] ∧ ex = 0 := ⟨e2, e1, e3⟩
          rcases key with k1 | ⟨k1, k2⟩ | ⟨k1, k2⟩
          · exact values_long_zero b x n a c zs ex hz0 hlen k1 hx w u hT
          · exact values_inf_zero b x n a c zs ex hz0 hlen k1 k2 w u hT
          · exact values_fin_zero b x n a c zs ex hz0 hlen k1 k2 w u hT
  · exact values_long f x n a c zs ex (by omega) w u hT
end Go.Proofs.YtioiakemmhfhkaaDoor
