import Derived.Test.YtlaflopimpnjpaaGreatSg31
import Derived.Test.YtlaflopimpnjpaaGreatSg32
import Derived.Deep.RegionLaw
import Derived.Orders
import Derived.Tactics
import Derived.Test.YtlaflopimpnjpaaGreatSg21
import Derived.ArgAppend
import Derived.Maps.AppendAt
/-! PanZ -/
namespace Go.Proofs.YtlaflopimpnjpaaGreat
open Go.RowKit
attribute [local go_sem ↓] Go.wp_at_zero Go.wp_at_succ

def groundC (W H : Int) : Array Value := #[.int .i64 (-1), .pointer none, .slice none 0 0, .int .i64 0, .int .i64 0, .slice none 0 0, .int .i64 0, .int .i64 0, .int .i64 0, .int .i64 0, .int .i64 W, .int .i64 H, .bool true, .int .i64 0, .int .i64 0, .slice none 0 0, .int .i64 0, .int .i64 0, .int .i64 0, .int .i64 0, .int .i64 0, .int .i64 0, .bool false, .bool false, .int .i64 0, .bool false]

set_option maxRecDepth 100000 in
set_option maxHeartbeats 1000000 in
/-- scene.New -/
theorem scNew_any (W H : Int) (w : World) : Calls Tryz.prog 35 #[.int .i64 W, .int .i64 H] w fun e w' => e = .returned (.pointer (some ⟨w.heap.size + 2, 0, none⟩)) ∧
      w' = ((w.alloc (.cells (groundC W H) 149)).alloc (.map #[] 0)).alloc (.cells #[.pointer (some ⟨w.heap.size, 0, none⟩), .map (some (w.heap.size + 1)), .int .i64 0] 152) := by
  have hmm : ∀ W : World, (Instr.makeMap 150 none).run Tryz.prog W = .ok (.map (some W.heap.size)) (W.alloc (.map #[] 0)) := fun W => run_makeMap _ W
  go_enter Tryz.func35, Tryz.ntmps35
  go_wp2_with fail
  go_ret
  exact ⟨rfl, rfl⟩

theorem heap_here (u : World) (o : Obj) (n : Nat) (h : u.heap.size = n) : (u.alloc o).heap[n]? = some o := by subst h; exact heap_alloc_new u o

/-- New on its way: so many buffers. -/
structure NewP (w wr : World) (W H : Int) (k : Nat) (bv : Value) (xs : List Value) : Prop where
  bel : Below w.heap.size w wr
  gnd : Blk wr w.heap.size 149 (groundC W H)
  map : wr.heap[w.heap.size + 1]? = some (.map #[] 0)
  sce : Blk wr (w.heap.size + 2) 152 #[.pointer (some ⟨w.heap.size, 0, none⟩), .map (some (w.heap.size + 1)), .int .i64 0]
  scr : Blk wr (w.heap.size + 3) 86 #[.pointer (some ⟨w.heap.size + 2, 0, none⟩), bv]
  row : wr.ownsRow (w.heap.size + 4) 88 3 bv k xs

theorem NewP.step {w wr w5 w6 : World} {W H : Int} {k : Nat} {bv v : Value} {xs ys : List Value} (h : NewP w wr W H k bv xs) (hb5 : Below wr.heap.size wr w5) (hgrow : w5.grownBy w6 bv.ownBlock) (hown : w6.ownsRow (w.heap.size + 4) 88 3 v (k + 1) ys) :
    NewP w (w6.setCell ⟨w.heap.size + 3, 1, none⟩ v) W H (k + 1) v ys := by
  have hs := h.bel.size
  have hx := h.scr.has.lt
  have hlow : ∀ b, b < w.heap.size + 4 → w6.heap[b]? = wr.heap[b]? := fun b hb => by
    rw [hgrow.block b (Nat.lt_of_lt_of_le (by omega) hb5.size) (fun e => by have := (h.row.lt b e.symm).1; omega), hb5.block b (by omega)]
  have hset : ∀ b, b ≠ w.heap.size + 3 → (w6.setCell ⟨w.heap.size + 3, 1, none⟩ v).heap[b]? = w6.heap[b]? := fun b hne => heap_setCell_other w6 ⟨w.heap.size + 3, 1, none⟩ b v hne
  have hs6 : Blk w6 (w.heap.size + 3) 86 #[.pointer (some ⟨w.heap.size + 2, 0, none⟩), bv] := (hlow _ (by omega)).trans h.scr
  refine ⟨?_, ?_, ?_, ?_, hs6.set 1 v, own_keep hown fun b hb => hset b ?_⟩
  · refine Below.setCell ?_ (by show w.heap.size ≤ w.heap.size + 3; omega) _
    exact (h.bel.trans (hb5.mono hs)).grown hgrow (by have := hb5.size; omega) fun b hb => by have := (h.row.lt b hb).1; omega
  · show (w6.setCell _ _).heap[w.heap.size]? = _
    rw [hset _ (by omega), hlow _ (by omega)]
    exact h.gnd
  · rw [hset _ (by omega), hlow _ (by omega)]
    exact h.map
  · show (w6.setCell _ _).heap[w.heap.size + 2]? = _
    rw [hset _ (by omega), hlow _ (by omega)]
    exact h.sce
  · have := (hown.lt b hb).1
    omega

theorem NewP.done {w wr : World} {W H : Int} {k : Nat} {bv : Value} {xs : List Value} (h : NewP w wr W H k bv xs) : PaneOk wr (fun g => w.heap.size ≤ g ∧ g < wr.heap.size) (w.heap.size + 3) ⟨W, H, [], []⟩ := by
  have hx := h.scr.has.lt
  have hlive : ∀ p, Live ⟨W, H, [], []⟩ p → p = -1 := fun p hp => by
    rcases hp with hp | ⟨i, _, hi⟩
    · exact hp
    · cases hi
  refine ⟨bv, w.heap.size + 2, w.heap.size + 1, fun _ => w.heap.size, fun _ o => (groundC W H).getD o undef, h.scr, h.sce, ⟨#[], 0, h.map, MapKept.stamped_empty 0, by simp⟩, fun p hp => ⟨_, h.gnd, rfl, fun o ho => ?_⟩, ⟨⟨by omega, hx⟩, ⟨by omega, h.sce.has.lt⟩, ⟨by omega, by omega⟩, fun p hp => ⟨by omega, h.gnd.has.lt⟩⟩, fun p p' hp hp' _ => by rw [hlive p hp, hlive p' hp'], fun p hp => ?_, fun p p' hp hp' hne => absurd (by rw [hlive p hp, hlive p' hp']) hne, fun p hp => ?_⟩
  · show _ = some ((groundC W H).getD o undef)
    rw [Array.getD_eq_getD_getElem?, Array.getElem?_eq_getElem (show o < (groundC W H).size from ho)]
    rfl
  · exact RowS.nil _ _ _ _
  · have := hlive p hp
    subst this
    exact ⟨rfl, rfl, ⟨rfl, rfl, ⟨_, _, _, rfl⟩, rfl, rfl, rfl, rfl, rfl, rfl, rfl⟩, ⟨look0, ⟨rfl, rfl, ⟨_, _, _, rfl⟩, rfl, rfl, rfl, rfl, rfl, rfl, rfl⟩, fun e => absurd rfl e⟩, ⟨_, _, _, rfl, rfl, rfl, fun e => absurd rfl e⟩⟩

theorem gridInfo : (Tryz.prog.info? 88).map (fun i => (i.zero, i.size, i.bytes)) = some (some (.agg #[.int .i64 0, .int .i64 0, .slice none 0 0]), 3, 40) := by kernel_rfl

def NPostP (W H : Int) (w : World) (e : Ending) (w' : World) : Prop := ∃ x, e = .returned (.tuple #[.pointer (some ⟨x, 0, none⟩), .int .i64 0]) ∧ PaneOk w' (fun g => w.heap.size ≤ g ∧ g < w'.heap.size) x ⟨W, H, [], []⟩ ∧ Below w.heap.size w w'

set_option maxRecDepth 100000 in
set_option maxHeartbeats 1000000 in
/-- New, where it is not refused. -/
theorem paNew_ok (W H n : Int) (w : World) (hW : 1 ≤ W ∧ W ≤ 24) (hH : 1 ≤ H ∧ H ≤ 24) (hn : 1 ≤ n ∧ n ≤ 3) :
    Calls Tryz.prog 13 #[.int .i64 W, .int .i64 H, .int .i64 n] w (NPostP W H w) := by
  obtain ⟨i0, hi0, hz0, hz1, hz2⟩ := info_parts gridInfo
  obtain ⟨N, hN⟩ : ∃ N : Nat, n = N := ⟨n.toNat, by omega⟩
  subst hN
  obtain ⟨hW0, hW1⟩ := hW
  obtain ⟨hH0, hH1⟩ := hH
  obtain ⟨hn0, hn1⟩ := hn
  have hWH : 0 ≤ W * H ∧ W * H ≤ 24 * 24 := ⟨Int.mul_nonneg (by omega) (by omega), Int.mul_le_mul hW1 hH1 (by omega) (by omega)⟩
  obtain ⟨K, hK⟩ : ∃ K : Nat, W * H = (K : Int) := ⟨(W * H).toNat, by omega⟩
  have HG := hide (gridNew_any W H K hK (by omega))
  have HSc := hide (scNew_any W H w)
  have H0 : Hid (NewP w ((((w.alloc (.cells (groundC W H) 149)).alloc (.map #[] 0)).alloc (.cells #[.pointer (some ⟨w.heap.size, 0, none⟩), .map (some (w.heap.size + 1)), .int .i64 0] 152)).alloc (.cells #[.pointer (some ⟨w.heap.size + 2, 0, none⟩), .slice none 0 0] 86)) W H 0 (.slice none 0 0) []) := by
    refine ⟨(((al1 (Nat.le_refl _) _).alloc (by simp) _).alloc (by simp; omega) _).alloc (by simp; omega) _, ?_, ?_, ?_, ?_, World.ownsRow_nil _ _ _ _⟩
    · unfold Blk
      rw [heap_old _ _ _ (by simp <;> omega), heap_old _ _ _ (by simp <;> omega), heap_old _ _ _ (by simp <;> omega)]
      exact heap_here _ _ _ rfl
    · rw [heap_old _ _ _ (by simp <;> omega), heap_old _ _ _ (by simp <;> omega)]
      exact heap_here _ _ _ (by simp)
    · unfold Blk
      rw [heap_old _ _ _ (by simp)]
      exact heap_here _ _ _ (by simp)
    · exact heap_here _ _ _ (by simp)
  clear hWH hK
  go_enter Tryz.func13, Tryz.ntmps13
  go_wp2_with (first
    | (go_at_call 35; refine HSc.out.mono ?_; rintro e w1 ⟨rfl, rfl⟩)
    | go_in)
  go_loopg [26] N (fun gg s26 wr => ∃ (k : Nat) (bv : Value) (xs : List Value), s26 = .int .i64 (k : Int) ∧ gg + k = N ∧ Hid (NewP w wr W H k bv xs))
  case atStart => exact ⟨0, .slice none 0 0, [], rfl, by omega, H0.out⟩
  case round =>
    rename World => wr
    obtain ⟨k, bv, xs, rfl, hgk, HM⟩ := hrel
    cases gk with
    | zero =>
      have hlt : ¬ (k : Int) < (N : Int) := by omega
      go_wp2_with fail
      go_ret2
      exact ⟨_, rfl, HM.out.done, HM.out.bel⟩
    | succ gk =>
      have hlt : (k : Int) < (N : Int) := by omega
      obtain ⟨ba, bc, hbf⟩ := row_form HM.out.row
      subst hbf
      have c1 : wr.cell? ⟨w.heap.size + 1 + 1 + 1, 1, none⟩ = some (.slice ba k bc) := HM.out.scr.cell 1
      have hxl : w.heap.size + 1 + 1 + 1 < wr.heap.size := HM.out.scr.has.lt
      have HX : Hid (∀ wx : World, Below wr.heap.size wr wx → wx.cell? ⟨w.heap.size + 1 + 1 + 1, 1, none⟩ = some (.slice ba k bc) ∧ wx.ownsRow (w.heap.size + 4) 88 3 (.slice ba k bc) k xs ∧ w.heap.size + 4 ≤ wx.heap.size) := fun wx hx => ⟨(hx.cell (p := ⟨w.heap.size + 1 + 1 + 1, 1, none⟩) hxl).trans c1, own_keep HM.out.row fun b hb => hx.block b (HM.out.row.lt b hb).2, by have := hx.size; omega⟩
      have HY : Hid (∀ (w5 w6 : World) (gg cp : Nat) (ys : List Value), Below wr.heap.size wr w5 → w5.grownBy w6 (Value.slice ba k bc).ownBlock → w6.ownsRow (w.heap.size + 4) 88 3 (.slice (some ⟨gg, 0, none⟩) (k + 1) cp) (k + 1) ys → w6.cell? ⟨w.heap.size + 1 + 1 + 1, 1, none⟩ = some (.slice ba k bc) ∧ w6.frozen? ⟨w.heap.size + 1 + 1 + 1, 1, none⟩ = false ∧ NewP w (w6.setCell ⟨w.heap.size + 1 + 1 + 1, 1, none⟩ (.slice (some ⟨gg, 0, none⟩) (k + 1) cp)) W H (k + 1) (.slice (some ⟨gg, 0, none⟩) (k + 1) cp) ys) := fun w5 w6 gg cp ys h5 hg ho => by
        have hb : w6.heap[w.heap.size + 1 + 1 + 1]? = wr.heap[w.heap.size + 1 + 1 + 1]? := by
          rw [hg.block _ (Nat.lt_of_lt_of_le hxl h5.size) (fun e => by have := (HM.out.row.lt _ e.symm).1; omega), h5.block _ hxl]
        refine ⟨?_, ?_, HM.out.step h5 hg ho⟩
        · rw [World.cell?_of_block (w := wr) (a := ⟨w.heap.size + 1 + 1 + 1, 1, none⟩) hb]
          exact c1
        · rw [World.frozen?_of_block (w := wr) (a := ⟨w.heap.size + 1 + 1 + 1, 1, none⟩) hb]
          exact HM.out.scr.has.free 1
      go_upto_region 8 with fail
      go_region_law (first
          | (refine step_append_lies _ (by rfl) (.tmp 32) (.tmp 36) 84 (by rfl) (w.heap.size + 4) 88 i0 _ 3 40 Tryz.underlying84 hi0 hz0 hz1 hz2 rfl (by omega) (.slice ba k bc) k xs (by rfl) (HX.out _ (HB1.out.alloc HB1.out.size _)).2.1 ⟨w1.heap.size, 0, none⟩ 1 1 [.int .i64 W, .int .i64 H, .slice (some ⟨g, 0, none⟩) K K] (by rfl) (by rfl) (World.news_of_block (cs := #[.int .i64 W, .int .i64 H, .slice (some ⟨g, 0, none⟩) K K]) (t := 88) (fr := (0, 0)) (heap_alloc_new w1 _)) (by simp [Value.oneCell']) (by omega) (by unfold maxLen; omega) (by omega) (HX.out _ (HB1.out.alloc HB1.out.size _)).2.2 _ rfl ?_; intro ga cp w6 hown6 hgrow _ _; obtain ⟨c6, f6, hN⟩ := HY.out _ w6 ga cp _ (HB1.out.alloc HB1.out.size _) hgrow hown6; have HN6 := hide hN; clear hN hown6 hgrow)
          | (go_simp; go_wp2_with (go_at_call 36; refine (HG.out _).mono ?_; rintro e w1 ⟨g, rfl, hg, hge, hb⟩; have HB1 := hide (((Below.refl wr.heap.size wr).drew).trans hb); have cx := (HX.out w1 HB1.out).1; have hxl1 := Nat.lt_of_lt_of_le hxl HB1.out.size; have hxn1 := Nat.ne_of_lt hxl1; clear hg hge hb)))
      all_goals
        go_wp2_with fail
        go_roundg gk
        case measure => omega
        case rel => exact ⟨k + 1, _, _, by go_num, by omega, HN6.out⟩

set_option maxRecDepth 100000 in
set_option maxHeartbeats 1000000 in
theorem paNew_size (W H n : Int) (w : World) (h : W < 1 ∨ 24 < W ∨ H < 1 ∨ 24 < H) :
    Calls Tryz.prog 13 #[.int .i64 W, .int .i64 H, .int .i64 n] w (NRef 5 w) := by
  have hcases : W < 1 ∨ (1 ≤ W ∧ 24 < W) ∨ (1 ≤ W ∧ W ≤ 24 ∧ H < 1) ∨ (1 ≤ W ∧ W ≤ 24 ∧ 1 ≤ H ∧ 24 < H) := by omega
  clear h
  rcases hcases with h1 | ⟨h1, h2⟩ | ⟨h1, h2, h3⟩ | ⟨h1, h2, h3, h4⟩
  all_goals
    try have hd : decide (H ≤ 24) = false := decide_eq_false (by omega)
    go_enter Tryz.func13, Tryz.ntmps13
    go_wp2_with go_in
    go_ret2
    exact ⟨rfl, Below.refl _ _⟩

set_option maxRecDepth 100000 in
set_option maxHeartbeats 1000000 in
theorem paNew_buf (W H n : Int) (w : World) (hW : 1 ≤ W ∧ W ≤ 24) (hH : 1 ≤ H ∧ H ≤ 24) (h : n < 1 ∨ 3 < n) :
    Calls Tryz.prog 13 #[.int .i64 W, .int .i64 H, .int .i64 n] w (NRef 10 w) := by
  obtain ⟨hW0, hW1⟩ := hW
  obtain ⟨hH0, hH1⟩ := hH
  have hcases : n < 1 ∨ (1 ≤ n ∧ 3 < n) := by omega
  clear h
  rcases hcases with h1 | ⟨h1, h2⟩
  all_goals
    try have hd : decide (n ≤ 3) = false := decide_eq_false (by omega)
    go_enter Tryz.func13, Tryz.ntmps13
    go_wp2_with go_in
    go_ret2
    exact ⟨rfl, Below.refl _ _⟩

end Go.Proofs.YtlaflopimpnjpaaGreat

/-! BokA -/
namespace Go.Proofs.YtlaflopimpnjpaaGreat

section
variable {P : Program} {ops : Array Oper} {Q : Exit → Act → World → Prop} {md : Region.Mode}

/-- How many operations are not listed yet. -/
def unl (n : Nat) (listed : Array Bool) : Nat := (List.range n).countP fun i => !listed.getD i true

theorem unl_succ (m : Nat) (L : Array Bool) : unl (m + 1) L = unl m L + (if L.getD m true = true then 0 else 1) := by
  unfold unl
  rw [List.range_succ, List.countP_append]
  cases h : L.getD m true <;> simp [-Array.getD_eq_getD_getElem?, h]

theorem unl_set (n : Nat) (listed : Array Bool) (i : Nat) (hi : i < n) (hl : listed.getD i true = false) : unl n (listed.setIfInBounds i true) + 1 ≤ unl n listed := by
  have hsz : i < listed.size := by
    rcases Nat.lt_or_ge i listed.size with h | h
    · exact h
    · rw [Array.getD_eq_getD_getElem?, Array.getElem?_eq_none h] at hl
      cases hl
  have hs : ∀ k, (listed.setIfInBounds i true).getD k true = (if k = i then true else listed.getD k true) := by
    intro k
    by_cases h : k = i
    · subst h
      simp [Array.getD_eq_getD_getElem?, hsz]
    · rw [if_neg h, Array.getD_eq_getD_getElem?, Array.getD_eq_getD_getElem?, Array.getElem?_setIfInBounds_ne (fun e => h e.symm)]
  have key : ∀ m, unl m (listed.setIfInBounds i true) + (if i < m then 1 else 0) ≤ unl m listed := by
    intro m
    induction m with
    | zero => simp [unl]
    | succ m ih =>
      rw [unl_succ, unl_succ, hs m]
      by_cases h1 : m = i
      · subst h1
        rw [if_neg (Nat.lt_irrefl _)] at ih
        rw [if_pos rfl, hl, if_pos (Nat.lt_succ_self _)]
        simp only [if_true, Bool.false_eq_true, if_false]
        omega
      · rw [if_neg h1]
        by_cases h2 : i < m
        · rw [if_pos h2] at ih
          rw [if_pos (show i < m + 1 by omega)]
          omega
        · rw [if_neg h2] at ih
          rw [if_neg (show ¬ i < m + 1 by omega)]
          omega
  have := key n
  rw [if_pos hi] at this
  exact this

theorem ready_mem {listed : Array Bool} {i : Nat} (h : i ∈ Region.ready md ops listed) : i < ops.size ∧ listed.getD i true = false ∧ ∃ o, ops[i]? = some o ∧ ∀ e ∈ o.after, Region.binds md e = true → listed.getD e.on false = true := by
  unfold Region.ready at h
  rw [List.mem_filter, List.mem_range] at h
  obtain ⟨h1, h2⟩ := h
  rw [Bool.and_eq_true] at h2
  obtain ⟨h2, h3⟩ := h2
  refine ⟨h1, by simpa using h2, ?_⟩
  cases ho : ops[i]? with
  | none => rw [ho] at h3; cases h3
  | some o =>
    rw [ho] at h3
    refine ⟨o, rfl, fun e he hb => ?_⟩
    have h4 : o.after.all (fun e => !Region.binds md e || listed.getD e.on false) = true := h3
    rw [Array.all_eq_true_iff_forall_mem] at h4
    have h5 := h4 e he
    rw [hb] at h5
    simpa using h5

theorem ready_nil {listed : Array Bool} (hback : ∀ (i : Nat) (o : Oper), ops[i]? = some o → ∀ e ∈ o.after, e.on < i) (hsz : listed.size = ops.size) (h : Region.ready md ops listed = []) : ∀ i, i < ops.size → listed[i]? = some true := by
  intro i
  induction i using Nat.strongRecOn with
  | ind i ih =>
    intro hi
    have hin : listed[i]? = some (listed[i]'(by omega)) := Array.getElem?_eq_getElem (by omega)
    cases hb : listed[i]'(by omega) with
    | true => rw [hin, hb]
    | false =>
      exfalso
      have ho : ops[i]? = some ops[i] := Array.getElem?_eq_getElem hi
      have : i ∈ Region.ready md ops listed := by
        unfold Region.ready
        rw [List.mem_filter, List.mem_range]
        refine ⟨hi, ?_⟩
        rw [Bool.and_eq_true]
        refine ⟨by rw [Array.getD_eq_getD_getElem?, hin, hb]; rfl, ?_⟩
        rw [ho]
        show ops[i].after.all (fun e => !Region.binds md e || listed.getD e.on false) = true
        rw [Array.all_eq_true_iff_forall_mem]
        intro e he
        have hlt := hback i ops[i] ho e he
        rw [Array.getD_eq_getD_getElem?, ih e.on hlt (by omega)]
        simp
      rw [h] at this
      cases this

/-- What each operation that may come next keeps holds behind a region, in whatever order. -/
theorem wpAny_inv {I : Array Bool → Act → World → Prop} (hback : ∀ (i : Nat) (o : Oper), ops[i]? = some o → ∀ e ∈ o.after, e.on < i)
    (hstep : ∀ (listed : Array Bool) (a : Act) (w : World) (i : Nat) (o : Oper), I listed a w → listed.size = ops.size → i < ops.size → ops[i]? = some o → (∀ e ∈ o.after, Region.binds md e = true → listed[e.on]? = some true) → wpOp P ops Q i (I (listed.setIfInBounds i true)) a w)
    (hend : ∀ listed a w, I listed a w → (∀ i, i < ops.size → listed[i]? = some true) → Q .normal a w) :
    ∀ fuel listed a w, I listed a w → listed.size = ops.size → unl ops.size listed ≤ fuel → wpAny P md ops Q fuel listed a w := by
  intro fuel
  induction fuel with
  | zero =>
    intro listed a w hI hsz hu
    have hnil : Region.ready md ops listed = [] := by
      cases hr : Region.ready md ops listed with
      | nil => rfl
      | cons i r =>
        have hm : i ∈ Region.ready md ops listed := by rw [hr]; simp
        obtain ⟨h1, h2, _⟩ := ready_mem hm
        have := unl_set ops.size listed i h1 h2
        omega
    exact ⟨hnil, hend _ _ _ hI (ready_nil hback hsz hnil)⟩
  | succ fuel ih =>
    intro listed a w hI hsz hu
    refine ⟨fun hnil => hend _ _ _ hI (ready_nil hback hsz hnil), fun i hm => ?_⟩
    obtain ⟨h1, h2, o, ho, h3⟩ := ready_mem hm
    have h4 := hstep listed a w i o hI hsz h1 ho fun e he hb => by
      have h5 := h3 e he hb
      rw [Array.getD_eq_getD_getElem?] at h5
      cases h6 : listed[e.on]? with
      | none => rw [h6] at h5; cases h5
      | some x => rw [h6] at h5; simp at h5; rw [h5]
    refine wpOp_mono (fun a' w' hI' => ih _ a' w' hI' (by simpa using hsz) ?_) h4
    have := unl_set ops.size listed i h1 h2
    omega

theorem unl_all (n : Nat) : unl n (Array.replicate n false) ≤ n := by
  unfold unl
  have := List.countP_le_length (p := fun i => !(Array.replicate n false).getD i true) (l := List.range n)
  simpa using this

theorem wp_region_inv {id : Nat} {a : Act} {w : World} (hm : P.follows .mixedOrders = true) {I : Array Bool → Act → World → Prop} (hback : ∀ (i : Nat) (o : Oper), ops[i]? = some o → ∀ e ∈ o.after, e.on < i)
    (h0 : I (Array.replicate ops.size false) a { w with drawn := w.drawn + 1 })
    (hstep : ∀ (listed : Array Bool) (a : Act) (w : World) (i : Nat) (o : Oper), I listed a w → listed.size = ops.size → i < ops.size → ops[i]? = some o → (∀ e ∈ o.after, Region.binds .any e = true → listed[e.on]? = some true) → wpOp P ops Q i (I (listed.setIfInBounds i true)) a w)
    (hend : ∀ listed a w, I listed a w → (∀ i, i < ops.size → listed[i]? = some true) → Q .normal a w) : (Code.region id ops true).wp P Q a w :=
  wp_region_any hm (wpAny_inv hback hstep hend _ _ _ _ h0 (by simp) (unl_all _))

/-- An operation that runs to a value. -/
theorem wpOp_run {i : Nat} {o : Oper} {a : Act} {w w' : World} {x : Value} {K : Act → World → Prop} (hi : ops[i]? = some o) (hg : o.guard = none) (hr : (execOp a.eval o).run P w = .ok (.value x) w') (hK : K (a.put o.dst x) w') : wpOp P ops Q i K a w := by
  unfold wpOp
  simp only [hi]
  have hw : Region.wanted o (yielded ops a.tmps) = true := by simp [Region.wanted, hg]
  rw [if_pos hw]
  left
  unfold Oper.wp
  rw [hr]
  exact hK

end
end Go.Proofs.YtlaflopimpnjpaaGreat

/-! BovB -/
namespace Go.Proofs.YtlaflopimpnjpaaGreat
open Go.RowKit

/-- A row of views of the call's own, whatever it holds. -/
def RowOV (w : World) (B0 : Nat) (s : Value) (m : Nat) : Prop := ∃ xs, w.ownsRow B0 63 9 s m xs

/-- One step: but for one block all are as they were; and rows of views stay rows as long as they were. -/
structure StpV (u : Option Nat) (w w' : World) : Prop where
  grown : w.grownBy w' u
  rows : ∀ (g : Nat) (cur : Array Value), w.heap[g]? = some (.cells cur 63 (0, 0)) → ∃ cur' : Array Value, w'.heap[g]? = some (.cells cur' 63 (0, 0)) ∧ cur'.size = cur.size

theorem RowOV.step {w w' : World} {B0 m : Nat} {s : Value} {u : Option Nat} (h : RowOV w B0 s m) (hs : StpV u w w') : RowOV w' B0 s m := by
  obtain ⟨xs, h1, h2⟩ := h
  rcases h2 with h2 | ⟨g, cap, cur, e1, e2, e3, e4, e5, e6, e7⟩
  · exact ⟨xs, h1, .inl h2⟩
  · obtain ⟨cur', k1, k2⟩ := hs.rows g cur e3
    refine ⟨cur'.toList.take (m * 9), ?_, .inr ⟨g, cap, cur', e1, e2, k1, e4, e5, by rw [k2, e6], rfl⟩⟩
    rw [List.length_take, Array.length_toList, k2, e6]
    have := Nat.mul_le_mul_right 4 e4
    omega

theorem StpV.refl (u : Option Nat) (w : World) : StpV u w w := ⟨⟨rfl, rfl, rfl, Nat.le_refl _, fun _ _ _ => rfl⟩, fun _ cur h => ⟨cur, h, rfl⟩⟩

theorem StpV.alloc (u : Option Nat) (w : World) (o : Obj) : StpV u w (w.alloc o) :=
  ⟨World.grownBy_alloc w o u, fun g cur h => ⟨cur, by rw [heap_old w o g (Array.getElem?_eq_some_iff.1 h).1]; exact h, rfl⟩⟩

theorem StpV.trans {u : Option Nat} {a b c : World} (h : StpV u a b) (k : StpV u b c) : StpV u a c :=
  ⟨h.grown.trans k.grown, fun g cur hg => by
    obtain ⟨c1, e1, e2⟩ := h.rows g cur hg
    obtain ⟨c2, e3, e4⟩ := k.rows g c1 e1
    exact ⟨c2, e3, e4.trans e2⟩⟩

theorem StpV.of_none {u : Option Nat} {a b : World} (h : a.grownBy b none) : StpV u a b :=
  ⟨⟨h.os, h.tape, h.output, h.size, fun k hk _ => h.block k hk (by simp)⟩, fun g cur hg => ⟨cur, by rw [h.block g (Array.getElem?_eq_some_iff.1 hg).1 (by simp)]; exact hg, rfl⟩⟩

/-- append to such a row. -/
theorem row_appendV {w : World} {B0 n : Nat} {v : Value} (hv : RowOV w B0 v n) (ty : TypeId) (ad : Addr) (m c : Nat) (news : List Value) (hl : news.length = m * 9) (hnews : ∀ j u, news[j]? = some u → w.cell? (ad.add j) = some u) (h1 : ∀ u ∈ news, u.oneCell' = true)
    (h63 : n + m ≤ maxLen) (hbytes : (n + m) * 72 ≤ 140737488355328) (hB : B0 ≤ w.heap.size) :
    ∃ v' w', (Builtin.append_ #[61, 61] ty #[v, .slice (some ad) m c]).run Tryz.prog w = .ok v' w' ∧ RowOV w' B0 v' (n + m) ∧ StpV v.ownBlock w w' ∧ (v'.ownBlock = v.ownBlock ∨ v'.ownBlock = some w.heap.size) := by
  obtain ⟨i0, hi0, hz0, hz1, hz2⟩ := info_parts viewInfo
  obtain ⟨xs, hown⟩ := hv
  obtain ⟨v', w', hr, ho, hg, _, hat⟩ := run_append_own_at (P := Tryz.prog) w B0 61 ty 63 i0 _ 9 72 Tryz.underlying61 hi0 hz0 hz1 hz2 rfl (by decide) v n xs hown ad m c news hl hnews h1 h63 hbytes hB
  refine ⟨v', w', hr, ⟨_, ho⟩, ⟨hg, fun k cur hk => ?_⟩, hat⟩
  have hkl := (Array.getElem?_eq_some_iff.1 hk).1
  by_cases hkv : some k = v.ownBlock
  · rcases hown.2 with ⟨e, _⟩ | ⟨g, cap, cu, e1, e2, e3, e4, e5, e6, e7⟩
    · rw [e] at hkv
      cases hkv
    · subst e1
      have hkg : k = g := by
        have : some k = some g := hkv
        injection this
      subst hkg
      rw [hk] at e3
      injection e3 with e3
      injection e3 with e3
      subst e3
      by_cases hroom : n + m ≤ cap
      · have hlen : news.length = m * i0.size := by rw [hz1]; exact hl
        have hfit : n * i0.size + news.length ≤ cur.size := by rw [hz1, hl, e6, ← Nat.add_mul]; exact Nat.mul_le_mul_right _ hroom
        have h9 := run_append_room (P := Tryz.prog) w 61 ty 63 i0 Tryz.underlying61 hi0 k n cap cur hk ad m c news hlen hnews h1 hroom hfit
        rw [hr] at h9
        injection h9 with _ h9
        subst h9
        refine ⟨_, setRow_heap w k cur _ 63 _ hk, ?_⟩
        simp only [List.size_toArray, List.length_append, List.length_take, List.length_drop, Array.length_toList]
        omega
      · obtain ⟨v2, w2, h9, _, h8⟩ := run_append_arg_grows (P := Tryz.prog) w 61 ty 63 i0 _ 9 72 Tryz.underlying61 hi0 hz0 hz1 hz2 rfl (by decide) ⟨k, 0, none⟩ n cap xs hown.1 (hown.cells (g := k) rfl) ad m c news hl hnews (by omega) h63 hbytes
        rw [hr] at h9
        injection h9 with _ h9
        subst h9
        exact (StpV.of_none (u := none) h8).rows k cur hk
  · exact ⟨cur, by rw [hg.block k hkl hkv]; exact hk, rfl⟩

end Go.Proofs.YtlaflopimpnjpaaGreat

/-! BovC -/
namespace Go.Proofs.YtlaflopimpnjpaaGreat
open Go.RowKit

variable {N : Nat} {cv : Value}

def zV (N : Nat) : Array Value := #[.int .i64 (-7070), .int .i64 0, .int .i64 0, .int .i64 (N : Int), .int .i64 0, .int .i64 0, .int .i64 0, .int .i64 0, .int .i64 0]

def secondOpsV : Code → Array Oper
  | .seq _ (.seq (.region _ ops _) _) => ops
  | _ => #[]

/-- A function's second region. -/
def rgnOfV (f : Func) : Array Oper := (f.body.map secondOpsV).getD #[]

def frV (N : Nat) (cv : Value) (pb zb : Nat) (v : Value) (f : Nat → Value) : Act :=
  { tmps := #[.pointer (some ⟨pb, 1, none⟩), v, undef, undef, .pointer (some ⟨zb, 0, none⟩), f 5, undef, undef, .pointer (some ⟨pb, 1, none⟩), .pointer (some ⟨pb, 1, none⟩), .pointer (some ⟨pb, 3, none⟩), cv, .int .i64 (N : Int), .agg (zV N),
      f 14, f 15, f 16, f 17, f 18, f 19, f 20, f 21, f 22, f 23, f 24, f 25, f 26, f 27, f 28, f 29, f 30, undef, undef, undef, undef, undef, undef, undef, undef, undef, undef, undef, undef, undef, undef, undef, undef, undef, undef, undef, undef, undef, undef, undef, undef, undef, undef, undef, undef, undef, undef, undef, undef], defers := [] }

set_option maxRecDepth 100000 in
theorem rgn1_sizeV : (rgnOfV Tryz.f31).size = 18 := rfl

set_option maxRecDepth 100000 in
theorem rgn1_backV : ∀ (i : Nat) (o : Oper), (rgnOfV Tryz.f31)[i]? = some o → ∀ e ∈ o.after, e.on < i := by
  have h : (List.range (rgnOfV Tryz.f31).size).all (fun i => ((rgnOfV Tryz.f31)[i]?.map fun o => o.after.toList.all fun e => decide (e.on < i)).getD false) = true := by kernel_rfl
  intro i o ho e he
  have hi : i < (rgnOfV Tryz.f31).size := (Array.getElem?_eq_some_iff.1 ho).1
  have h1 := List.all_eq_true.1 h i (List.mem_range.2 hi)
  rw [ho] at h1
  have h2 : o.after.toList.all (fun e => decide (e.on < i)) = true := h1
  exact of_decide_eq_true (List.all_eq_true.1 h2 e (Array.mem_toList_iff.2 he))

set_option maxRecDepth 100000 in
theorem runLoadV (pb zb : Nat) (v : Value) (f : Nat → Value) (o : Oper) (ho : o.op = .load 63 (.tmp 4)) (w : World) (hz : w.heap[zb]? = some (.cells (zV N) 63 (0, 0))) : (execOp (frV N cv pb zb v f).eval o).run Tryz.prog w = .ok (.value (.agg (zV N))) w := by
  have c0 : w.cell? ⟨zb, 0, none⟩ = some (.int .i64 (-7070)) := by rw [cell_of_row w zb 0 (zV N) _ _ hz]; rfl
  have c1 : w.cell? ⟨zb, 1, none⟩ = some (.int .i64 0) := by rw [cell_of_row w zb 1 (zV N) _ _ hz]; rfl
  have c2 : w.cell? ⟨zb, 2, none⟩ = some (.int .i64 0) := by rw [cell_of_row w zb 2 (zV N) _ _ hz]; rfl
  have c3 : w.cell? ⟨zb, 3, none⟩ = some (.int .i64 (N : Int)) := by rw [cell_of_row w zb 3 (zV N) _ _ hz]; rfl
  have c4 : w.cell? ⟨zb, 4, none⟩ = some (.int .i64 0) := by rw [cell_of_row w zb 4 (zV N) _ _ hz]; rfl
  have c5 : w.cell? ⟨zb, 5, none⟩ = some (.int .i64 0) := by rw [cell_of_row w zb 5 (zV N) _ _ hz]; rfl
  have c6 : w.cell? ⟨zb, 6, none⟩ = some (.int .i64 0) := by rw [cell_of_row w zb 6 (zV N) _ _ hz]; rfl
  have c7 : w.cell? ⟨zb, 7, none⟩ = some (.int .i64 0) := by rw [cell_of_row w zb 7 (zV N) _ _ hz]; rfl
  have c8 : w.cell? ⟨zb, 8, none⟩ = some (.int .i64 0) := by rw [cell_of_row w zb 8 (zV N) _ _ hz]; rfl
  have e4 : (frV N cv pb zb v f).eval (.tmp 4) = .pointer (some ⟨zb, 0, none⟩) := rfl
  unfold execOp
  simp only [ho, e4]
  go_simp
  rfl

set_option maxRecDepth 100000 in
theorem runB1V (pb zb : Nat) (v : Value) (f : Nat → Value) (o : Oper) (ho : o.op = .buildSlice 61 1 #[(0, .tmp 16)]) (w : World) (h16 : f 16 = .agg (zV N)) : (execOp (frV N cv pb zb v f).eval o).run Tryz.prog w = .ok (.value (.slice (some ⟨w.heap.size, 0, none⟩) 1 1)) (w.alloc (.cells (zV N) 63)) := by
  have e4 : (frV N cv pb zb v f).eval (.tmp 16) = .agg (zV N) := h16
  unfold execOp
  simp only [ho, List.map_toArray, List.map_cons, List.map_nil, e4]
  unfold zV
  go_simp

set_option maxRecDepth 100000 in
theorem runB2V (pb zb : Nat) (v : Value) (f : Nat → Value) (o : Oper) (ho : o.op = .buildSlice 61 2 #[(0, .tmp 20), (1, .tmp 21)]) (w : World) (h1 : f 20 = .agg (zV N)) (h2 : f 21 = .agg (zV N)) : (execOp (frV N cv pb zb v f).eval o).run Tryz.prog w = .ok (.value (.slice (some ⟨w.heap.size, 0, none⟩) 2 2)) (w.alloc (.cells ((zV N) ++ (zV N)) 63)) := by
  have e1 : (frV N cv pb zb v f).eval (.tmp 20) = .agg (zV N) := h1
  have e2 : (frV N cv pb zb v f).eval (.tmp 21) = .agg (zV N) := h2
  unfold execOp
  simp only [ho, List.map_toArray, List.map_cons, List.map_nil, e1, e2]
  unfold zV
  go_simp

set_option maxRecDepth 100000 in
theorem runB3V (pb zb : Nat) (v : Value) (f : Nat → Value) (o : Oper) (ho : o.op = .buildSlice 61 3 #[(0, .tmp 25), (1, .tmp 26), (2, .tmp 27)]) (w : World) (h1 : f 25 = .agg (zV N)) (h2 : f 26 = .agg (zV N)) (h3 : f 27 = .agg (zV N)) : (execOp (frV N cv pb zb v f).eval o).run Tryz.prog w = .ok (.value (.slice (some ⟨w.heap.size, 0, none⟩) 3 3)) (w.alloc (.cells ((zV N) ++ (zV N) ++ (zV N)) 63)) := by
  have e1 : (frV N cv pb zb v f).eval (.tmp 25) = .agg (zV N) := h1
  have e2 : (frV N cv pb zb v f).eval (.tmp 26) = .agg (zV N) := h2
  have e3 : (frV N cv pb zb v f).eval (.tmp 27) = .agg (zV N) := h3
  unfold execOp
  simp only [ho, List.map_toArray, List.map_cons, List.map_nil, e1, e2, e3]
  unfold zV
  go_simp

set_option maxRecDepth 100000 in
theorem runB4V (pb zb : Nat) (v : Value) (f : Nat → Value) (o : Oper) (ho : o.op = .buildSlice 60 4 #[(0, .tmp 14), (1, .tmp 18), (2, .tmp 23), (3, .tmp 29)]) (w : World) (x0 x1 x2 x3 : Option Addr) (n0 n1 n2 n3 c0 c1 c2 c3 : Nat) (h0 : f 14 = .slice x0 n0 c0) (h1 : f 18 = .slice x1 n1 c1) (h2 : f 23 = .slice x2 n2 c2) (h3 : f 29 = .slice x3 n3 c3) : (execOp (frV N cv pb zb v f).eval o).run Tryz.prog w = .ok (.value (.slice (some ⟨w.heap.size, 0, none⟩) 4 4)) (w.alloc (.cells #[.slice x0 n0 c0, .slice x1 n1 c1, .slice x2 n2 c2, .slice x3 n3 c3] 61)) := by
  have e0 : (frV N cv pb zb v f).eval (.tmp 14) = .slice x0 n0 c0 := h0
  have e1 : (frV N cv pb zb v f).eval (.tmp 18) = .slice x1 n1 c1 := h1
  have e2 : (frV N cv pb zb v f).eval (.tmp 23) = .slice x2 n2 c2 := h2
  have e3 : (frV N cv pb zb v f).eval (.tmp 29) = .slice x3 n3 c3 := h3
  unfold execOp
  simp only [ho, List.map_toArray, List.map_cons, List.map_nil, e0, e1, e2, e3]
  go_simp

theorem runAppV (a : Act) (o : Oper) (s x : Operand) (ho : o.op = .call { callee := .builtin .append, args := #[s, x], argTypes := #[61, 61] }) (w w' : World) (y z r : Value) (h1 : a.eval s = y) (h2 : a.eval x = z) (hr : (Builtin.append_ #[61, 61] o.type #[y, z]).run Tryz.prog w = .ok r w') : (execOp a.eval o).run Tryz.prog w = .ok (.value r) w' := by
  unfold execOp
  simp only [ho, resolve, invoke, builtin, Sem.run_bind, Sem.run_pure, Result.andThen_ok, List.map_toArray, List.map_cons, List.map_nil, h1, h2, hr]

end Go.Proofs.YtlaflopimpnjpaaGreat

/-! BovD -/
namespace Go.Proofs.YtlaflopimpnjpaaGreat
open Go.RowKit

variable {N : Nat} {cv : Value}

/-- A row that is to be appended. -/
def BldV (u : Option Nat) (w : World) (x : Value) (m : Nat) (cs : Array Value) : Prop := ∃ g, x = .slice (some ⟨g, 0, none⟩) m m ∧ some g ≠ u ∧ w.heap[g]? = some (.cells cs 63 (0, 0))

def RowZV (w : World) (B0 zb : Nat) (x : Value) (m : Nat) : Prop := RowOV w B0 x m ∧ x.ownBlock ≠ some zb

/-- The four lists. -/
def RegsV (v : Value) (n B0 zb : Nat) (w : World) (x : Value) : Prop := ∃ g a b c, x = .slice (some ⟨g, 0, none⟩) 4 4 ∧ some g ≠ v.ownBlock ∧ w.heap[g]? = some (.cells #[v, a, b, c] 61 (0, 0)) ∧ RowZV w B0 zb a (n + 1) ∧ RowZV w B0 zb b (n + 2) ∧ RowZV w B0 zb c (n + 3)

theorem RowZV.step {w w' : World} {B0 zb m : Nat} {x : Value} {u : Option Nat} (h : RowZV w B0 zb x m) (hs : StpV u w w') : RowZV w' B0 zb x m := ⟨h.1.step hs, h.2⟩

theorem BldV.step {w w' : World} {m : Nat} {x : Value} {cs : Array Value} {u : Option Nat} (h : BldV u w x m cs) (hs : StpV u w w') : BldV u w' x m cs := by
  obtain ⟨g, h1, h2, h3⟩ := h
  exact ⟨g, h1, h2, by rw [hs.grown.block g (Array.getElem?_eq_some_iff.1 h3).1 h2]; exact h3⟩

theorem RegsV.step {w w' : World} {v x : Value} {n B0 zb : Nat} (h : RegsV v n B0 zb w x) (hs : StpV v.ownBlock w w') : RegsV v n B0 zb w' x := by
  obtain ⟨g, a, b, c, h1, h2, h3, h4, h5, h6⟩ := h
  exact ⟨g, a, b, c, h1, h2, by rw [hs.grown.block g (Array.getElem?_eq_some_iff.1 h3).1 h2]; exact h3, h4.step hs, h5.step hs, h6.step hs⟩

/-- What slot s holds once its operation is through. -/
structure FxV (N : Nat) (v : Value) (n B0 zb s : Nat) (x : Value) (w : World) : Prop where
  mv : s = 14 ∨ s = 15 ∨ s = 19 ∨ s = 24 → x = v
  ld : s = 16 ∨ s = 20 ∨ s = 21 ∨ s = 25 ∨ s = 26 ∨ s = 27 → x = .agg (zV N)
  b1 : s = 17 → BldV v.ownBlock w x 1 (zV N)
  b2 : s = 22 → BldV v.ownBlock w x 2 ((zV N) ++ (zV N))
  b3 : s = 28 → BldV v.ownBlock w x 3 ((zV N) ++ (zV N) ++ (zV N))
  r1 : s = 18 → RowZV w B0 zb x (n + 1)
  r2 : s = 23 → RowZV w B0 zb x (n + 2)
  r3 : s = 29 → RowZV w B0 zb x (n + 3)
  rg : s = 30 ∨ s = 5 → RegsV v n B0 zb w x

theorem FxV.step {w w' : World} {v x : Value} {n B0 zb s : Nat} (h : FxV N v n B0 zb s x w) (hs : StpV v.ownBlock w w') : FxV N v n B0 zb s x w' :=
  ⟨h.mv, h.ld, fun e => (h.b1 e).step hs, fun e => (h.b2 e).step hs, fun e => (h.b3 e).step hs, fun e => (h.r1 e).step hs, fun e => (h.r2 e).step hs, fun e => (h.r3 e).step hs, fun e => (h.rg e).step hs⟩

def slotOfV (k : Nat) : Nat := if k = 17 then 5 else k + 14

def BInvV (N : Nat) (v : Value) (n B0 zb : Nat) (w0 : World) (listed : Array Bool) (f : Nat → Value) (w : World) : Prop :=
  StpV v.ownBlock w0 w ∧ ∀ k, k < 18 → listed[k]? = some true → FxV N v n B0 zb (slotOfV k) (f (slotOfV k)) w

theorem inv_putV {v x : Value} {n B0 zb : Nat} {w0 w w' : World} {listed : Array Bool} {f : Nat → Value} (k : Nat) (h : BInvV N v n B0 zb w0 listed f w) (hk : k < 18) (hs : StpV v.ownBlock w w') (hx : FxV N v n B0 zb (slotOfV k) x w') :
    BInvV N v n B0 zb w0 (listed.setIfInBounds k true) (fun s => if s = slotOfV k then x else f s) w' := by
  refine ⟨h.1.trans hs, fun j hj hl => ?_⟩
  by_cases e : j = k
  · subst e
    simp only [if_true]
    exact hx
  · rw [Array.getElem?_setIfInBounds_ne (fun q => e q.symm)] at hl
    have hne : ¬ slotOfV j = slotOfV k := by
      unfold slotOfV
      split <;> split <;> omega
    simp only [hne, if_false]
    exact (h.2 j hj hl).step hs

theorem news_oneV : ∀ u ∈ (zV N).toList, u.oneCell' = true := by
  intro u hu
  simp only [zV, List.mem_cons, List.not_mem_nil, or_false] at hu
  rcases hu with rfl | rfl | rfl | rfl | rfl | rfl | rfl | rfl | rfl <;> rfl
theorem news_twoV : ∀ u ∈ ((zV N) ++ (zV N)).toList, u.oneCell' = true := by
  intro u hu
  rw [Array.toList_append, List.mem_append] at hu
  rcases hu with h | h <;> exact news_oneV u h
theorem news_threeV : ∀ u ∈ ((zV N) ++ (zV N) ++ (zV N)).toList, u.oneCell' = true := by
  intro u hu
  rw [Array.toList_append, List.mem_append] at hu
  rcases hu with h | h
  · exact news_twoV u h
  · exact news_oneV u h

theorem z3_size (N : Nat) : (zV N ++ zV N ++ zV N).size = 3 * 9 := by rw [Array.size_append, Array.size_append]; rfl
theorem z2_size (N : Nat) : (zV N ++ zV N).size = 2 * 9 := by rw [Array.size_append]; rfl

/-- append in the region. -/
theorem app_stepV {v x : Value} {n B0 zb m : Nat} {w w1 : World} {cs : Array Value} (ty : TypeId) (hn : n + m ≤ 9000010) (hB : B0 ≤ w.heap.size) (hv : RowOV w B0 v n) (hz : w.heap[zb]? = some (.cells (zV N) 63 (0, 0))) (hvz : v.ownBlock ≠ some zb) (hs : StpV v.ownBlock w w1) (hx : BldV v.ownBlock w1 x m cs) (hcs : cs.size = m * 9) (h1 : ∀ u ∈ cs.toList, u.oneCell' = true) :
    ∃ r w', (Builtin.append_ #[61, 61] ty #[v, x]).run Tryz.prog w1 = .ok r w' ∧ StpV v.ownBlock w1 w' ∧ RowZV w' B0 zb r (n + m) := by
  obtain ⟨g, rfl, hg, hb⟩ := hx
  obtain ⟨r, w', hr, h2, h3, h4⟩ := row_appendV (hv.step hs) ty ⟨g, 0, none⟩ m m cs.toList (by rw [Array.length_toList, hcs]) (World.news_of_block hb) h1 (by unfold maxLen; omega) (by omega) (by have := hs.grown.size; omega)
  refine ⟨r, w', hr, h3, h2, ?_⟩
  rcases h4 with h4 | h4
  · rw [h4]; exact hvz
  · rw [h4]
    have hzl := (Array.getElem?_eq_some_iff.1 hz).1
    have := hs.grown.size
    intro e
    injection e with e
    omega

set_option maxRecDepth 100000 in
theorem step0V {Q : Exit → Act → World → Prop} {v : Value} {n B0 pb zb : Nat} {w w1 : World} {listed : Array Bool} {f : Nat → Value} {o : Oper} (hI : BInvV N v n B0 zb w listed f w1) (ho : (rgnOfV Tryz.f31)[0]? = some o) (_ : ∀ e ∈ o.after, Region.binds .any e = true → listed[e.on]? = some true) :
    wpOp Tryz.prog (rgnOfV Tryz.f31) Q 0 (fun a' w' => ∃ f', a' = frV N cv pb zb v f' ∧ BInvV N v n B0 zb w (listed.setIfInBounds 0 true) f' w') (frV N cv pb zb v f) w1 := by
  have ho9 := ho
  cases ho
  exact wpOp_run (x := v) (w' := w1) ho9 rfl rfl ⟨_, rfl, inv_putV 0 hI (by decide) (StpV.refl _ _) ⟨fun _ => rfl, fun e => absurd e (by decide), fun e => absurd e (by decide), fun e => absurd e (by decide), fun e => absurd e (by decide), fun e => absurd e (by decide), fun e => absurd e (by decide), fun e => absurd e (by decide), fun e => absurd e (by decide)⟩⟩

set_option maxRecDepth 100000 in
theorem step1V {Q : Exit → Act → World → Prop} {v : Value} {n B0 pb zb : Nat} {w w1 : World} {listed : Array Bool} {f : Nat → Value} {o : Oper} (hI : BInvV N v n B0 zb w listed f w1) (ho : (rgnOfV Tryz.f31)[1]? = some o) (_ : ∀ e ∈ o.after, Region.binds .any e = true → listed[e.on]? = some true) :
    wpOp Tryz.prog (rgnOfV Tryz.f31) Q 1 (fun a' w' => ∃ f', a' = frV N cv pb zb v f' ∧ BInvV N v n B0 zb w (listed.setIfInBounds 1 true) f' w') (frV N cv pb zb v f) w1 := by
  have ho9 := ho
  cases ho
  exact wpOp_run (x := v) (w' := w1) ho9 rfl rfl ⟨_, rfl, inv_putV 1 hI (by decide) (StpV.refl _ _) ⟨fun _ => rfl, fun e => absurd e (by decide), fun e => absurd e (by decide), fun e => absurd e (by decide), fun e => absurd e (by decide), fun e => absurd e (by decide), fun e => absurd e (by decide), fun e => absurd e (by decide), fun e => absurd e (by decide)⟩⟩

set_option maxRecDepth 100000 in
theorem step2V {Q : Exit → Act → World → Prop} {v : Value} {n B0 pb zb : Nat} {w w1 : World} {listed : Array Bool} {f : Nat → Value} {o : Oper} (hz : w.heap[zb]? = some (.cells (zV N) 63 (0, 0))) (hvz : v.ownBlock ≠ some zb) (hI : BInvV N v n B0 zb w listed f w1) (ho : (rgnOfV Tryz.f31)[2]? = some o) (_ : ∀ e ∈ o.after, Region.binds .any e = true → listed[e.on]? = some true) :
    wpOp Tryz.prog (rgnOfV Tryz.f31) Q 2 (fun a' w' => ∃ f', a' = frV N cv pb zb v f' ∧ BInvV N v n B0 zb w (listed.setIfInBounds 2 true) f' w') (frV N cv pb zb v f) w1 := by
  have ho9 := ho
  cases ho
  have hz1 : w1.heap[zb]? = some (.cells (zV N) 63 (0, 0)) := by rw [hI.1.grown.block zb (Array.getElem?_eq_some_iff.1 hz).1 (fun e => hvz e.symm)]; exact hz
  exact wpOp_run (x := .agg (zV N)) (w' := w1) ho9 rfl (runLoadV pb zb v f _ rfl w1 hz1) ⟨_, rfl, inv_putV 2 hI (by decide) (StpV.refl _ _) ⟨fun e => absurd e (by decide), fun _ => rfl, fun e => absurd e (by decide), fun e => absurd e (by decide), fun e => absurd e (by decide), fun e => absurd e (by decide), fun e => absurd e (by decide), fun e => absurd e (by decide), fun e => absurd e (by decide)⟩⟩

set_option maxRecDepth 100000 in
theorem step3V {Q : Exit → Act → World → Prop} {v : Value} {n B0 pb zb : Nat} {w w1 : World} {listed : Array Bool} {f : Nat → Value} {o : Oper} (hv : RowOV w B0 v n) (hI : BInvV N v n B0 zb w listed f w1) (ho : (rgnOfV Tryz.f31)[3]? = some o) (hd : ∀ e ∈ o.after, Region.binds .any e = true → listed[e.on]? = some true) :
    wpOp Tryz.prog (rgnOfV Tryz.f31) Q 3 (fun a' w' => ∃ f', a' = frV N cv pb zb v f' ∧ BInvV N v n B0 zb w (listed.setIfInBounds 3 true) f' w') (frV N cv pb zb v f) w1 := by
  have ho9 := ho
  cases ho
  have d2 : listed[2]? = some true := hd ⟨2, _⟩ (Array.mem_toList_iff.1 (List.Mem.head _)) rfl
  have q2 := hI.2 2 (by decide) d2
  have hnew : some w1.heap.size ≠ v.ownBlock := fun e => by
    have h1 := (hv.step hI.1)
    obtain ⟨xs, h2⟩ := h1
    have := (h2.lt _ e.symm).2
    omega
  exact wpOp_run ho9 rfl (runB1V pb zb v f _ rfl w1 (q2.ld (by decide))) ⟨_, rfl, inv_putV 3 hI (by decide) (StpV.alloc _ _ _) ⟨fun e => absurd e (by decide), fun e => absurd e (by decide), fun _ => ⟨w1.heap.size, rfl, hnew, heap_alloc_new w1 _⟩, fun e => absurd e (by decide), fun e => absurd e (by decide), fun e => absurd e (by decide), fun e => absurd e (by decide), fun e => absurd e (by decide), fun e => absurd e (by decide)⟩⟩

set_option maxRecDepth 100000 in
theorem step4V {Q : Exit → Act → World → Prop} {v : Value} {n B0 pb zb : Nat} {w w1 : World} {listed : Array Bool} {f : Nat → Value} {o : Oper} (hn : n ≤ 9000000) (hB : B0 ≤ w.heap.size) (hv : RowOV w B0 v n) (hz : w.heap[zb]? = some (.cells (zV N) 63 (0, 0))) (hvz : v.ownBlock ≠ some zb) (hI : BInvV N v n B0 zb w listed f w1) (ho : (rgnOfV Tryz.f31)[4]? = some o) (hd : ∀ e ∈ o.after, Region.binds .any e = true → listed[e.on]? = some true) :
    wpOp Tryz.prog (rgnOfV Tryz.f31) Q 4 (fun a' w' => ∃ f', a' = frV N cv pb zb v f' ∧ BInvV N v n B0 zb w (listed.setIfInBounds 4 true) f' w') (frV N cv pb zb v f) w1 := by
  have ho9 := ho
  cases ho
  have d1 : listed[1]? = some true := hd ⟨1, _⟩ (Array.mem_toList_iff.1 (List.Mem.head _)) rfl
  have q1 := hI.2 1 (by decide) d1
  have d3 : listed[3]? = some true := hd ⟨3, _⟩ (Array.mem_toList_iff.1 (List.Mem.tail _ (List.Mem.head _))) rfl
  have q3 := hI.2 3 (by decide) d3
  obtain ⟨r, w2, hr, hs2, hrow⟩ := app_stepV (cs := (zV N)) 61 (by omega) hB hv hz hvz hI.1 (q3.b1 rfl) rfl news_oneV
  exact wpOp_run ho9 rfl (runAppV (frV N cv pb zb v f) _ (.tmp 15) (.tmp 17) rfl w1 w2 v (f 17) r (q1.mv (by decide)) rfl hr) ⟨_, rfl, inv_putV 4 hI (by decide) hs2 ⟨fun e => absurd e (by decide), fun e => absurd e (by decide), fun e => absurd e (by decide), fun e => absurd e (by decide), fun e => absurd e (by decide), fun _ => hrow, fun e => absurd e (by decide), fun e => absurd e (by decide), fun e => absurd e (by decide)⟩⟩

set_option maxRecDepth 100000 in
theorem step5V {Q : Exit → Act → World → Prop} {v : Value} {n B0 pb zb : Nat} {w w1 : World} {listed : Array Bool} {f : Nat → Value} {o : Oper} (hI : BInvV N v n B0 zb w listed f w1) (ho : (rgnOfV Tryz.f31)[5]? = some o) (_ : ∀ e ∈ o.after, Region.binds .any e = true → listed[e.on]? = some true) :
    wpOp Tryz.prog (rgnOfV Tryz.f31) Q 5 (fun a' w' => ∃ f', a' = frV N cv pb zb v f' ∧ BInvV N v n B0 zb w (listed.setIfInBounds 5 true) f' w') (frV N cv pb zb v f) w1 := by
  have ho9 := ho
  cases ho
  exact wpOp_run (x := v) (w' := w1) ho9 rfl rfl ⟨_, rfl, inv_putV 5 hI (by decide) (StpV.refl _ _) ⟨fun _ => rfl, fun e => absurd e (by decide), fun e => absurd e (by decide), fun e => absurd e (by decide), fun e => absurd e (by decide), fun e => absurd e (by decide), fun e => absurd e (by decide), fun e => absurd e (by decide), fun e => absurd e (by decide)⟩⟩

set_option maxRecDepth 100000 in
theorem step6V {Q : Exit → Act → World → Prop} {v : Value} {n B0 pb zb : Nat} {w w1 : World} {listed : Array Bool} {f : Nat → Value} {o : Oper} (hz : w.heap[zb]? = some (.cells (zV N) 63 (0, 0))) (hvz : v.ownBlock ≠ some zb) (hI : BInvV N v n B0 zb w listed f w1) (ho : (rgnOfV Tryz.f31)[6]? = some o) (_ : ∀ e ∈ o.after, Region.binds .any e = true → listed[e.on]? = some true) :
    wpOp Tryz.prog (rgnOfV Tryz.f31) Q 6 (fun a' w' => ∃ f', a' = frV N cv pb zb v f' ∧ BInvV N v n B0 zb w (listed.setIfInBounds 6 true) f' w') (frV N cv pb zb v f) w1 := by
  have ho9 := ho
  cases ho
  have hz1 : w1.heap[zb]? = some (.cells (zV N) 63 (0, 0)) := by rw [hI.1.grown.block zb (Array.getElem?_eq_some_iff.1 hz).1 (fun e => hvz e.symm)]; exact hz
  exact wpOp_run (x := .agg (zV N)) (w' := w1) ho9 rfl (runLoadV pb zb v f _ rfl w1 hz1) ⟨_, rfl, inv_putV 6 hI (by decide) (StpV.refl _ _) ⟨fun e => absurd e (by decide), fun _ => rfl, fun e => absurd e (by decide), fun e => absurd e (by decide), fun e => absurd e (by decide), fun e => absurd e (by decide), fun e => absurd e (by decide), fun e => absurd e (by decide), fun e => absurd e (by decide)⟩⟩

set_option maxRecDepth 100000 in
theorem step7V {Q : Exit → Act → World → Prop} {v : Value} {n B0 pb zb : Nat} {w w1 : World} {listed : Array Bool} {f : Nat → Value} {o : Oper} (hz : w.heap[zb]? = some (.cells (zV N) 63 (0, 0))) (hvz : v.ownBlock ≠ some zb) (hI : BInvV N v n B0 zb w listed f w1) (ho : (rgnOfV Tryz.f31)[7]? = some o) (_ : ∀ e ∈ o.after, Region.binds .any e = true → listed[e.on]? = some true) :
    wpOp Tryz.prog (rgnOfV Tryz.f31) Q 7 (fun a' w' => ∃ f', a' = frV N cv pb zb v f' ∧ BInvV N v n B0 zb w (listed.setIfInBounds 7 true) f' w') (frV N cv pb zb v f) w1 := by
  have ho9 := ho
  cases ho
  have hz1 : w1.heap[zb]? = some (.cells (zV N) 63 (0, 0)) := by rw [hI.1.grown.block zb (Array.getElem?_eq_some_iff.1 hz).1 (fun e => hvz e.symm)]; exact hz
  exact wpOp_run (x := .agg (zV N)) (w' := w1) ho9 rfl (runLoadV pb zb v f _ rfl w1 hz1) ⟨_, rfl, inv_putV 7 hI (by decide) (StpV.refl _ _) ⟨fun e => absurd e (by decide), fun _ => rfl, fun e => absurd e (by decide), fun e => absurd e (by decide), fun e => absurd e (by decide), fun e => absurd e (by decide), fun e => absurd e (by decide), fun e => absurd e (by decide), fun e => absurd e (by decide)⟩⟩

set_option maxRecDepth 100000 in
theorem step8V {Q : Exit → Act → World → Prop} {v : Value} {n B0 pb zb : Nat} {w w1 : World} {listed : Array Bool} {f : Nat → Value} {o : Oper} (hv : RowOV w B0 v n) (hI : BInvV N v n B0 zb w listed f w1) (ho : (rgnOfV Tryz.f31)[8]? = some o) (hd : ∀ e ∈ o.after, Region.binds .any e = true → listed[e.on]? = some true) :
    wpOp Tryz.prog (rgnOfV Tryz.f31) Q 8 (fun a' w' => ∃ f', a' = frV N cv pb zb v f' ∧ BInvV N v n B0 zb w (listed.setIfInBounds 8 true) f' w') (frV N cv pb zb v f) w1 := by
  have ho9 := ho
  cases ho
  have d6 : listed[6]? = some true := hd ⟨6, _⟩ (Array.mem_toList_iff.1 (List.Mem.head _)) rfl
  have q6 := hI.2 6 (by decide) d6
  have d7 : listed[7]? = some true := hd ⟨7, _⟩ (Array.mem_toList_iff.1 (List.Mem.tail _ (List.Mem.head _))) rfl
  have q7 := hI.2 7 (by decide) d7
  have hnew : some w1.heap.size ≠ v.ownBlock := fun e => by
    have h1 := (hv.step hI.1)
    obtain ⟨xs, h2⟩ := h1
    have := (h2.lt _ e.symm).2
    omega
  exact wpOp_run ho9 rfl (runB2V pb zb v f _ rfl w1 (q6.ld (by decide)) (q7.ld (by decide))) ⟨_, rfl, inv_putV 8 hI (by decide) (StpV.alloc _ _ _) ⟨fun e => absurd e (by decide), fun e => absurd e (by decide), fun e => absurd e (by decide), fun _ => ⟨w1.heap.size, rfl, hnew, heap_alloc_new w1 _⟩, fun e => absurd e (by decide), fun e => absurd e (by decide), fun e => absurd e (by decide), fun e => absurd e (by decide), fun e => absurd e (by decide)⟩⟩

set_option maxRecDepth 100000 in
theorem step9V {Q : Exit → Act → World → Prop} {v : Value} {n B0 pb zb : Nat} {w w1 : World} {listed : Array Bool} {f : Nat → Value} {o : Oper} (hn : n ≤ 9000000) (hB : B0 ≤ w.heap.size) (hv : RowOV w B0 v n) (hz : w.heap[zb]? = some (.cells (zV N) 63 (0, 0))) (hvz : v.ownBlock ≠ some zb) (hI : BInvV N v n B0 zb w listed f w1) (ho : (rgnOfV Tryz.f31)[9]? = some o) (hd : ∀ e ∈ o.after, Region.binds .any e = true → listed[e.on]? = some true) :
    wpOp Tryz.prog (rgnOfV Tryz.f31) Q 9 (fun a' w' => ∃ f', a' = frV N cv pb zb v f' ∧ BInvV N v n B0 zb w (listed.setIfInBounds 9 true) f' w') (frV N cv pb zb v f) w1 := by
  have ho9 := ho
  cases ho
  have d5 : listed[5]? = some true := hd ⟨5, _⟩ (Array.mem_toList_iff.1 (List.Mem.head _)) rfl
  have q5 := hI.2 5 (by decide) d5
  have d8 : listed[8]? = some true := hd ⟨8, _⟩ (Array.mem_toList_iff.1 (List.Mem.tail _ (List.Mem.head _))) rfl
  have q8 := hI.2 8 (by decide) d8
  have d4 : listed[4]? = some true := hd ⟨4, _⟩ (Array.mem_toList_iff.1 (List.Mem.tail _ (List.Mem.tail _ (List.Mem.head _)))) rfl
  have q4 := hI.2 4 (by decide) d4
  obtain ⟨r, w2, hr, hs2, hrow⟩ := app_stepV (cs := ((zV N) ++ (zV N))) 61 (by omega) hB hv hz hvz hI.1 (q8.b2 rfl) (z2_size N) news_twoV
  exact wpOp_run ho9 rfl (runAppV (frV N cv pb zb v f) _ (.tmp 19) (.tmp 22) rfl w1 w2 v (f 22) r (q5.mv (by decide)) rfl hr) ⟨_, rfl, inv_putV 9 hI (by decide) hs2 ⟨fun e => absurd e (by decide), fun e => absurd e (by decide), fun e => absurd e (by decide), fun e => absurd e (by decide), fun e => absurd e (by decide), fun e => absurd e (by decide), fun _ => hrow, fun e => absurd e (by decide), fun e => absurd e (by decide)⟩⟩

set_option maxRecDepth 100000 in
theorem step10V {Q : Exit → Act → World → Prop} {v : Value} {n B0 pb zb : Nat} {w w1 : World} {listed : Array Bool} {f : Nat → Value} {o : Oper} (hI : BInvV N v n B0 zb w listed f w1) (ho : (rgnOfV Tryz.f31)[10]? = some o) (_ : ∀ e ∈ o.after, Region.binds .any e = true → listed[e.on]? = some true) :
    wpOp Tryz.prog (rgnOfV Tryz.f31) Q 10 (fun a' w' => ∃ f', a' = frV N cv pb zb v f' ∧ BInvV N v n B0 zb w (listed.setIfInBounds 10 true) f' w') (frV N cv pb zb v f) w1 := by
  have ho9 := ho
  cases ho
  exact wpOp_run (x := v) (w' := w1) ho9 rfl rfl ⟨_, rfl, inv_putV 10 hI (by decide) (StpV.refl _ _) ⟨fun _ => rfl, fun e => absurd e (by decide), fun e => absurd e (by decide), fun e => absurd e (by decide), fun e => absurd e (by decide), fun e => absurd e (by decide), fun e => absurd e (by decide), fun e => absurd e (by decide), fun e => absurd e (by decide)⟩⟩

set_option maxRecDepth 100000 in
theorem step11V {Q : Exit → Act → World → Prop} {v : Value} {n B0 pb zb : Nat} {w w1 : World} {listed : Array Bool} {f : Nat → Value} {o : Oper} (hz : w.heap[zb]? = some (.cells (zV N) 63 (0, 0))) (hvz : v.ownBlock ≠ some zb) (hI : BInvV N v n B0 zb w listed f w1) (ho : (rgnOfV Tryz.f31)[11]? = some o) (_ : ∀ e ∈ o.after, Region.binds .any e = true → listed[e.on]? = some true) :
    wpOp Tryz.prog (rgnOfV Tryz.f31) Q 11 (fun a' w' => ∃ f', a' = frV N cv pb zb v f' ∧ BInvV N v n B0 zb w (listed.setIfInBounds 11 true) f' w') (frV N cv pb zb v f) w1 := by
  have ho9 := ho
  cases ho
  have hz1 : w1.heap[zb]? = some (.cells (zV N) 63 (0, 0)) := by rw [hI.1.grown.block zb (Array.getElem?_eq_some_iff.1 hz).1 (fun e => hvz e.symm)]; exact hz
  exact wpOp_run (x := .agg (zV N)) (w' := w1) ho9 rfl (runLoadV pb zb v f _ rfl w1 hz1) ⟨_, rfl, inv_putV 11 hI (by decide) (StpV.refl _ _) ⟨fun e => absurd e (by decide), fun _ => rfl, fun e => absurd e (by decide), fun e => absurd e (by decide), fun e => absurd e (by decide), fun e => absurd e (by decide), fun e => absurd e (by decide), fun e => absurd e (by decide), fun e => absurd e (by decide)⟩⟩

set_option maxRecDepth 100000 in
theorem step12V {Q : Exit → Act → World → Prop} {v : Value} {n B0 pb zb : Nat} {w w1 : World} {listed : Array Bool} {f : Nat → Value} {o : Oper} (hz : w.heap[zb]? = some (.cells (zV N) 63 (0, 0))) (hvz : v.ownBlock ≠ some zb) (hI : BInvV N v n B0 zb w listed f w1) (ho : (rgnOfV Tryz.f31)[12]? = some o) (_ : ∀ e ∈ o.after, Region.binds .any e = true → listed[e.on]? = some true) :
    wpOp Tryz.prog (rgnOfV Tryz.f31) Q 12 (fun a' w' => ∃ f', a' = frV N cv pb zb v f' ∧ BInvV N v n B0 zb w (listed.setIfInBounds 12 true) f' w') (frV N cv pb zb v f) w1 := by
  have ho9 := ho
  cases ho
  have hz1 : w1.heap[zb]? = some (.cells (zV N) 63 (0, 0)) := by rw [hI.1.grown.block zb (Array.getElem?_eq_some_iff.1 hz).1 (fun e => hvz e.symm)]; exact hz
  exact wpOp_run (x := .agg (zV N)) (w' := w1) ho9 rfl (runLoadV pb zb v f _ rfl w1 hz1) ⟨_, rfl, inv_putV 12 hI (by decide) (StpV.refl _ _) ⟨fun e => absurd e (by decide), fun _ => rfl, fun e => absurd e (by decide), fun e => absurd e (by decide), fun e => absurd e (by decide), fun e => absurd e (by decide), fun e => absurd e (by decide), fun e => absurd e (by decide), fun e => absurd e (by decide)⟩⟩

set_option maxRecDepth 100000 in
theorem step13V {Q : Exit → Act → World → Prop} {v : Value} {n B0 pb zb : Nat} {w w1 : World} {listed : Array Bool} {f : Nat → Value} {o : Oper} (hz : w.heap[zb]? = some (.cells (zV N) 63 (0, 0))) (hvz : v.ownBlock ≠ some zb) (hI : BInvV N v n B0 zb w listed f w1) (ho : (rgnOfV Tryz.f31)[13]? = some o) (_ : ∀ e ∈ o.after, Region.binds .any e = true → listed[e.on]? = some true) :
    wpOp Tryz.prog (rgnOfV Tryz.f31) Q 13 (fun a' w' => ∃ f', a' = frV N cv pb zb v f' ∧ BInvV N v n B0 zb w (listed.setIfInBounds 13 true) f' w') (frV N cv pb zb v f) w1 := by
  have ho9 := ho
  cases ho
  have hz1 : w1.heap[zb]? = some (.cells (zV N) 63 (0, 0)) := by rw [hI.1.grown.block zb (Array.getElem?_eq_some_iff.1 hz).1 (fun e => hvz e.symm)]; exact hz
  exact wpOp_run (x := .agg (zV N)) (w' := w1) ho9 rfl (runLoadV pb zb v f _ rfl w1 hz1) ⟨_, rfl, inv_putV 13 hI (by decide) (StpV.refl _ _) ⟨fun e => absurd e (by decide), fun _ => rfl, fun e => absurd e (by decide), fun e => absurd e (by decide), fun e => absurd e (by decide), fun e => absurd e (by decide), fun e => absurd e (by decide), fun e => absurd e (by decide), fun e => absurd e (by decide)⟩⟩

set_option maxRecDepth 100000 in
theorem step14V {Q : Exit → Act → World → Prop} {v : Value} {n B0 pb zb : Nat} {w w1 : World} {listed : Array Bool} {f : Nat → Value} {o : Oper} (hv : RowOV w B0 v n) (hI : BInvV N v n B0 zb w listed f w1) (ho : (rgnOfV Tryz.f31)[14]? = some o) (hd : ∀ e ∈ o.after, Region.binds .any e = true → listed[e.on]? = some true) :
    wpOp Tryz.prog (rgnOfV Tryz.f31) Q 14 (fun a' w' => ∃ f', a' = frV N cv pb zb v f' ∧ BInvV N v n B0 zb w (listed.setIfInBounds 14 true) f' w') (frV N cv pb zb v f) w1 := by
  have ho9 := ho
  cases ho
  have d11 : listed[11]? = some true := hd ⟨11, _⟩ (Array.mem_toList_iff.1 (List.Mem.head _)) rfl
  have q11 := hI.2 11 (by decide) d11
  have d12 : listed[12]? = some true := hd ⟨12, _⟩ (Array.mem_toList_iff.1 (List.Mem.tail _ (List.Mem.head _))) rfl
  have q12 := hI.2 12 (by decide) d12
  have d13 : listed[13]? = some true := hd ⟨13, _⟩ (Array.mem_toList_iff.1 (List.Mem.tail _ (List.Mem.tail _ (List.Mem.head _)))) rfl
  have q13 := hI.2 13 (by decide) d13
  have hnew : some w1.heap.size ≠ v.ownBlock := fun e => by
    have h1 := (hv.step hI.1)
    obtain ⟨xs, h2⟩ := h1
    have := (h2.lt _ e.symm).2
    omega
  exact wpOp_run ho9 rfl (runB3V pb zb v f _ rfl w1 (q11.ld (by decide)) (q12.ld (by decide)) (q13.ld (by decide))) ⟨_, rfl, inv_putV 14 hI (by decide) (StpV.alloc _ _ _) ⟨fun e => absurd e (by decide), fun e => absurd e (by decide), fun e => absurd e (by decide), fun e => absurd e (by decide), fun _ => ⟨w1.heap.size, rfl, hnew, heap_alloc_new w1 _⟩, fun e => absurd e (by decide), fun e => absurd e (by decide), fun e => absurd e (by decide), fun e => absurd e (by decide)⟩⟩

set_option maxRecDepth 100000 in
theorem step15V {Q : Exit → Act → World → Prop} {v : Value} {n B0 pb zb : Nat} {w w1 : World} {listed : Array Bool} {f : Nat → Value} {o : Oper} (hn : n ≤ 9000000) (hB : B0 ≤ w.heap.size) (hv : RowOV w B0 v n) (hz : w.heap[zb]? = some (.cells (zV N) 63 (0, 0))) (hvz : v.ownBlock ≠ some zb) (hI : BInvV N v n B0 zb w listed f w1) (ho : (rgnOfV Tryz.f31)[15]? = some o) (hd : ∀ e ∈ o.after, Region.binds .any e = true → listed[e.on]? = some true) :
    wpOp Tryz.prog (rgnOfV Tryz.f31) Q 15 (fun a' w' => ∃ f', a' = frV N cv pb zb v f' ∧ BInvV N v n B0 zb w (listed.setIfInBounds 15 true) f' w') (frV N cv pb zb v f) w1 := by
  have ho9 := ho
  cases ho
  have d10 : listed[10]? = some true := hd ⟨10, _⟩ (Array.mem_toList_iff.1 (List.Mem.head _)) rfl
  have q10 := hI.2 10 (by decide) d10
  have d14 : listed[14]? = some true := hd ⟨14, _⟩ (Array.mem_toList_iff.1 (List.Mem.tail _ (List.Mem.head _))) rfl
  have q14 := hI.2 14 (by decide) d14
  have d9 : listed[9]? = some true := hd ⟨9, _⟩ (Array.mem_toList_iff.1 (List.Mem.tail _ (List.Mem.tail _ (List.Mem.head _)))) rfl
  have q9 := hI.2 9 (by decide) d9
  obtain ⟨r, w2, hr, hs2, hrow⟩ := app_stepV (cs := ((zV N) ++ (zV N) ++ (zV N))) 61 (by omega) hB hv hz hvz hI.1 (q14.b3 rfl) (z3_size N) news_threeV
  exact wpOp_run ho9 rfl (runAppV (frV N cv pb zb v f) _ (.tmp 24) (.tmp 28) rfl w1 w2 v (f 28) r (q10.mv (by decide)) rfl hr) ⟨_, rfl, inv_putV 15 hI (by decide) hs2 ⟨fun e => absurd e (by decide), fun e => absurd e (by decide), fun e => absurd e (by decide), fun e => absurd e (by decide), fun e => absurd e (by decide), fun e => absurd e (by decide), fun e => absurd e (by decide), fun _ => hrow, fun e => absurd e (by decide)⟩⟩

set_option maxRecDepth 100000 in
theorem step16V {Q : Exit → Act → World → Prop} {v : Value} {n B0 pb zb : Nat} {w w1 : World} {listed : Array Bool} {f : Nat → Value} {o : Oper} (hv : RowOV w B0 v n) (hI : BInvV N v n B0 zb w listed f w1) (ho : (rgnOfV Tryz.f31)[16]? = some o) (hd : ∀ e ∈ o.after, Region.binds .any e = true → listed[e.on]? = some true) :
    wpOp Tryz.prog (rgnOfV Tryz.f31) Q 16 (fun a' w' => ∃ f', a' = frV N cv pb zb v f' ∧ BInvV N v n B0 zb w (listed.setIfInBounds 16 true) f' w') (frV N cv pb zb v f) w1 := by
  have ho9 := ho
  cases ho
  have d0 : listed[0]? = some true := hd ⟨0, _⟩ (Array.mem_toList_iff.1 (List.Mem.head _)) rfl
  have q0 := hI.2 0 (by decide) d0
  have d4 : listed[4]? = some true := hd ⟨4, _⟩ (Array.mem_toList_iff.1 (List.Mem.tail _ (List.Mem.head _))) rfl
  have q4 := hI.2 4 (by decide) d4
  have d9 : listed[9]? = some true := hd ⟨9, _⟩ (Array.mem_toList_iff.1 (List.Mem.tail _ (List.Mem.tail _ (List.Mem.head _)))) rfl
  have q9 := hI.2 9 (by decide) d9
  have d15 : listed[15]? = some true := hd ⟨15, _⟩ (Array.mem_toList_iff.1 (List.Mem.tail _ (List.Mem.tail _ (List.Mem.tail _ (List.Mem.head _))))) rfl
  have q15 := hI.2 15 (by decide) d15
  have hnew : some w1.heap.size ≠ v.ownBlock := fun e => by
    have h1 := (hv.step hI.1)
    obtain ⟨xs, h2⟩ := h1
    have := (h2.lt _ e.symm).2
    omega
  have f0 : f 14 = v := q0.mv (by decide)
  have R1 := q4.r1 rfl
  have R2 := q9.r2 rfl
  have R3 := q15.r3 rfl
  obtain ⟨⟨x0, hx0⟩, ⟨x1, hx1⟩, ⟨x2, hx2⟩, ⟨x3, hx3⟩⟩ := And.intro (hv.step hI.1) (And.intro R1.1 (And.intro R2.1 R3.1))
  obtain ⟨a0, c0, e0⟩ := row_form hx0
  obtain ⟨a1, c1, e1⟩ := row_form hx1
  obtain ⟨a2, c2, e2⟩ := row_form hx2
  obtain ⟨a3, c3, e3⟩ := row_form hx3
  refine wpOp_run ho9 rfl (runB4V pb zb v f _ rfl w1 a0 a1 a2 a3 _ _ _ _ c0 c1 c2 c3 (f0.trans e0) e1 e2 e3) ⟨_, rfl, inv_putV 16 hI (by decide) (StpV.alloc _ _ _) ⟨fun e => absurd e (by decide), fun e => absurd e (by decide), fun e => absurd e (by decide), fun e => absurd e (by decide), fun e => absurd e (by decide), fun e => absurd e (by decide), fun e => absurd e (by decide), fun e => absurd e (by decide), fun _ => ?_⟩⟩
  have S := StpV.alloc v.ownBlock w1 (.cells #[.slice a0 n c0, .slice a1 (n + 1) c1, .slice a2 (n + 2) c2, .slice a3 (n + 3) c3] 61)
  refine ⟨w1.heap.size, f 18, f 23, f 29, rfl, hnew, ?_, R1.step S, R2.step S, R3.step S⟩
  rw [heap_alloc_new]
  have g1 : f 18 = .slice a1 (n + 1) c1 := e1
  have g2 : f 23 = .slice a2 (n + 2) c2 := e2
  have g3 : f 29 = .slice a3 (n + 3) c3 := e3
  rw [g1, g2, g3, e0]

set_option maxRecDepth 100000 in
theorem step17V {Q : Exit → Act → World → Prop} {v : Value} {n B0 pb zb : Nat} {w w1 : World} {listed : Array Bool} {f : Nat → Value} {o : Oper} (hI : BInvV N v n B0 zb w listed f w1) (ho : (rgnOfV Tryz.f31)[17]? = some o) (hd : ∀ e ∈ o.after, Region.binds .any e = true → listed[e.on]? = some true) :
    wpOp Tryz.prog (rgnOfV Tryz.f31) Q 17 (fun a' w' => ∃ f', a' = frV N cv pb zb v f' ∧ BInvV N v n B0 zb w (listed.setIfInBounds 17 true) f' w') (frV N cv pb zb v f) w1 := by
  have ho9 := ho
  cases ho
  have d16 : listed[16]? = some true := hd ⟨16, _⟩ (Array.mem_toList_iff.1 (List.Mem.head _)) rfl
  have q16 := hI.2 16 (by decide) d16
  exact wpOp_run (x := f 30) (w' := w1) ho9 rfl rfl ⟨_, rfl, inv_putV 17 hI (by decide) (StpV.refl _ _) ⟨fun e => absurd e (by decide), fun e => absurd e (by decide), fun e => absurd e (by decide), fun e => absurd e (by decide), fun e => absurd e (by decide), fun e => absurd e (by decide), fun e => absurd e (by decide), fun e => absurd e (by decide), fun _ => q16.rg (by decide)⟩⟩

set_option maxRecDepth 100000 in
/-- The region that makes the four lists, in whatever order. -/
theorem book_r1V {Q : Exit → Act → World → Prop} {v : Value} {n B0 pb zb id : Nat} {w : World} {f : Nat → Value} (hn : n ≤ 9000000) (hB : B0 ≤ w.heap.size) (hv : RowOV w B0 v n) (hz : w.heap[zb]? = some (.cells (zV N) 63 (0, 0))) (hvz : v.ownBlock ≠ some zb)
    (hQ : ∀ f' w', StpV v.ownBlock w w' → RegsV v n B0 zb w' (f' 5) → Q .normal (frV N cv pb zb v f') w') : (Code.region id (rgnOfV Tryz.f31) true).wp Tryz.prog Q (frV N cv pb zb v f) w := by
  refine wp_region_inv (by kernel_rfl) (I := fun listed a w1 => ∃ f', a = frV N cv pb zb v f' ∧ BInvV N v n B0 zb w listed f' w1) rgn1_backV ⟨f, rfl, ?_⟩ ?_ ?_
  · refine ⟨⟨⟨rfl, rfl, rfl, Nat.le_refl _, fun _ _ _ => rfl⟩, fun g cur h => ⟨cur, h, rfl⟩⟩, fun k hk hl => ?_⟩
    rw [rgn1_sizeV, Array.getElem?_replicate, if_pos hk] at hl
    cases hl
  · rintro listed a w1 i o ⟨f', rfl, hI⟩ hsz hi ho hd
    rw [rgn1_sizeV] at hi
    match i, hi with
    | 0, _ => exact step0V  hI ho hd
    | 1, _ => exact step1V  hI ho hd
    | 2, _ => exact step2V hz hvz hI ho hd
    | 3, _ => exact step3V hv hI ho hd
    | 4, _ => exact step4V hn hB hv hz hvz hI ho hd
    | 5, _ => exact step5V  hI ho hd
    | 6, _ => exact step6V hz hvz hI ho hd
    | 7, _ => exact step7V hz hvz hI ho hd
    | 8, _ => exact step8V hv hI ho hd
    | 9, _ => exact step9V hn hB hv hz hvz hI ho hd
    | 10, _ => exact step10V  hI ho hd
    | 11, _ => exact step11V hz hvz hI ho hd
    | 12, _ => exact step12V hz hvz hI ho hd
    | 13, _ => exact step13V hz hvz hI ho hd
    | 14, _ => exact step14V hv hI ho hd
    | 15, _ => exact step15V hn hB hv hz hvz hI ho hd
    | 16, _ => exact step16V hv hI ho hd
    | 17, _ => exact step17V  hI ho hd
  · rintro listed a w1 ⟨f', rfl, hI⟩ hl
    exact hQ f' w1 hI.1 ((hI.2 17 (by decide) (hl 17 (by rw [rgn1_sizeV]; decide))).rg (by decide))

end Go.Proofs.YtlaflopimpnjpaaGreat
