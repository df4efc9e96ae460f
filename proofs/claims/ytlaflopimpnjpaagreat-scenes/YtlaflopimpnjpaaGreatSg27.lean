import Derived.Test.YtlaflopimpnjpaaGreatSg26
/-! RefH -/
namespace Go.Proofs.YtlaflopimpnjpaaGreat
open Go.RowKit
attribute [local go_sem ↓] Go.wp_at_zero Go.wp_at_succ

/-- append of one number, and where it lies. -/
theorem wpList_append_natL {w : World} {ops : Array Oper} {rest : List Oper} {o : Oper} {a : Act} {Q : Exit → Act → World → Prop} (hgd : o.guard = none) (s x : Operand)
    (ho : o.op = .call { callee := .builtin .append, args := #[s, x], argTypes := #[24, 24] }) (base : Nat) (v : Value) (E : List Nat) (hs : a.eval s = v) (hown : OwnN w base v E) (b j : Nat) (hx : a.eval x = .slice (some ⟨b, 0, none⟩) 1 1)
    (hb : w.heap[b]? = some (.cells #[.int .i64 (j : Int)] 3 (0, 0))) (hl : E.length ≤ 1000) (hbase : base ≤ w.heap.size)
    (h : ∀ v' w', OwnN w' base v' (E ++ [j]) → w.grownBy w' v.ownBlock → (v'.ownBlock = v.ownBlock ∨ v'.ownBlock = some w.heap.size) → wpList Tryz.prog ops Q rest (a.put o.dst v') w') : wpList Tryz.prog ops Q (o :: rest) a w := by
  obtain ⟨i0, hi0, hz0, hz1, hz2⟩ := info_parts intInfo
  refine wpList_append_row (P := Tryz.prog) hgd s x 24 ho base 3 i0 _ 1 8 Tryz.underlying24 hi0 hz0 hz1 hz2 rfl (by decide) v E.length (E.map fun (i : Nat) => Value.int .i64 (i : Int)) hs hown _ 1 [.int .i64 j] hx rfl (.inr ⟨_, _, rfl, World.news_of_block (cs := #[.int .i64 j]) (t := 3) (fr := (0, 0)) hb⟩) (by simp [Value.oneCell']) (by unfold maxLen; omega) (by omega) hbase ?_
  intro v' w' h1 h2 _ h3
  refine h v' w' ?_ h2 h3
  unfold OwnN
  rw [List.length_append, List.map_append]
  exact h1

def MPost (S : Nat → Prop) (c : Nat) (p : Int × Int × St) (w : World) (e : Ending) (w' : World) : Prop := e = .returned (.tuple #[.int .i64 p.1, .int .i64 p.2.1]) ∧ RefOk w' (grow S w w') c p.2.2 ∧ Only S w w'

/-- Rows of other types stay behind an append. -/
theorem grown_other {w w2 : World} {u : Option Nat} {T : TypeId} (hg : w.grownBy w2 u) (hu : ∀ g, u = some g → ∃ cur, w.heap[g]? = some (.cells cur T (0, 0))) : ∀ (t : TypeId), t ≠ T → ∀ (b : Nat) (cur : Array Value), w.heap[b]? = some (.cells cur t (0, 0)) → w2.heap[b]? = w.heap[b]? := fun t ht b cur hb => by
  refine hg.block b (Array.getElem?_eq_some_iff.1 hb).1 fun e => ?_
  obtain ⟨c2, h2⟩ := hu b e.symm
  exact ne_of_type hb h2 ht rfl

theorem RRaw.newOrd {w w2 : World} {S S' : Nat → Prop} {c : Nat} {W H : Int} {n : Nat} {ord ord' : List Nat} {bv sv ov ov' : Value} {F : Nat → Nat → Value} (h : RRaw w S c W H n ord bv sv ov F) (hS : ∀ g, S g → S' g) (hk : ∀ (t : TypeId), t ≠ 3 → ∀ (b : Nat) (cur : Array Value), w.heap[b]? = some (.cells cur t (0, 0)) → w2.heap[b]? = w.heap[b]?) (ho : RowS w2 S' 3 1 ov' ord'.length (ord'.map fun (i : Nat) => .int .i64 (i : Int))) : RRaw (w2.setCell ⟨c, 4, none⟩ ov') S' c W H n ord' bv sv ov' F := by
  obtain ⟨h1, h2, ⟨xs, h3, h4⟩, h5, nb, ys, h6, h7, h8⟩ := h
  have hc2 : w2.heap[c]? = some (.cells #[.int .i64 W, .int .i64 H, bv, sv, ov] 93 (0, 0)) := (hk _ (by decide) c _ h1).trans h1
  have hk2 : ∀ (T : TypeId), T ≠ 93 → ∀ (b : Nat) (cur : Array Value), w2.heap[b]? = some (.cells cur T (0, 0)) → (w2.setCell ⟨c, 4, none⟩ ov').heap[b]? = w2.heap[b]? := fun T hT b cur hb => heap_setCell_other w2 ⟨c, 4, none⟩ b ov' (ne_of_type hb hc2 hT)
  refine ⟨heap_setCell_same w2 c 4 _ _ ov' hc2, hS _ h2, ⟨xs, ((h3.mono hS).other (hk _ (by decide))).other (hk2 _ (by decide)), h4⟩, ho.other (hk2 _ (by decide)), nb, ys, h6, ((h7.mono hS).other (hk _ (by decide))).other (hk2 _ (by decide)), fun k hk3 => ?_⟩
  obtain ⟨dv, m, e1, e2, zs, e3⟩ := h8 k hk3
  exact ⟨dv, m, e1, e2, zs, ((e3.mono hS).other (hk _ (by decide))).other (hk2 _ (by decide))⟩

theorem RRaw.newSfs {w w2 : World} {S S' : Nat → Prop} {c : Nat} {W H : Int} {n n' : Nat} {ord : List Nat} {bv sv sv' ov : Value} {F F' : Nat → Nat → Value} (h : RRaw w S c W H n ord bv sv ov F) (hS : ∀ g, S g → S' g) (hk : ∀ (t : TypeId), t ≠ 118 → ∀ (b : Nat) (cur : Array Value), w.heap[b]? = some (.cells cur t (0, 0)) → w2.heap[b]? = w.heap[b]?) (ho : ∃ xs, RowS w2 S' 118 28 sv' n' xs ∧ ∀ i, i < n' → ∀ o, o < 28 → xs[i * 28 + o]? = some (F' i o)) : RRaw (w2.setCell ⟨c, 3, none⟩ sv') S' c W H n' ord bv sv' ov F' := by
  obtain ⟨h1, h2, ⟨xs, h3, h4⟩, h5, nb, ys, h6, h7, h8⟩ := h
  obtain ⟨zs, z1, z2⟩ := ho
  have hc2 : w2.heap[c]? = some (.cells #[.int .i64 W, .int .i64 H, bv, sv, ov] 93 (0, 0)) := (hk _ (by decide) c _ h1).trans h1
  have hk2 : ∀ (T : TypeId), T ≠ 93 → ∀ (b : Nat) (cur : Array Value), w2.heap[b]? = some (.cells cur T (0, 0)) → (w2.setCell ⟨c, 3, none⟩ sv').heap[b]? = w2.heap[b]? := fun T hT b cur hb => heap_setCell_other w2 ⟨c, 3, none⟩ b sv' (ne_of_type hb hc2 hT)
  refine ⟨heap_setCell_same w2 c 3 _ _ sv' hc2, hS _ h2, ⟨zs, z1.other (hk2 _ (by decide)), z2⟩, ((h5.mono hS).other (hk _ (by decide))).other (hk2 _ (by decide)), nb, ys, h6, ((h7.mono hS).other (hk _ (by decide))).other (hk2 _ (by decide)), fun k hk3 => ?_⟩
  obtain ⟨dv, m, e1, e2, us, e3⟩ := h8 k hk3
  exact ⟨dv, m, e1, e2, us, ((e3.mono hS).other (hk _ (by decide))).other (hk2 _ (by decide))⟩

def newCells (p : Int) : List Value := [.bool true, .int .i64 p, .int .i64 0, .int .i64 0, .slice none 0 0, .int .i64 0, .int .i64 0, .bool false, .int .i64 0, .int .i64 0, .int .i64 0, .int .i64 0, .slice none 0 0, .int .i64 0, .int .i64 0, .slice none 0 0, .int .i64 0, .int .i64 0, .bool false, .int .i64 0, .int .i64 0, .int .i64 0, .int .i64 0, .slice none 0 0, .bool false, .int .i64 0, .bool false, .slice none 0 0]

theorem surfInfo : (Tryz.prog.info? 118).map (fun i => (i.zero, i.size, i.bytes)) = some (some (.agg #[.bool false, .int .i64 0, .int .i64 0, .int .i64 0, .slice none 0 0, .int .i64 0, .int .i64 0, .bool false, .int .i64 0, .int .i64 0, .int .i64 0, .int .i64 0, .slice none 0 0, .int .i64 0, .int .i64 0, .slice none 0 0, .int .i64 0, .int .i64 0, .bool false, .int .i64 0, .int .i64 0, .int .i64 0, .int .i64 0, .slice none 0 0, .bool false, .int .i64 0, .bool false, .slice none 0 0]), 28, 304) := by kernel_rfl

/-- One surface more. -/
def moreF (F : Nat → Nat → Value) (n : Nat) (p : Int) : Nat → Nat → Value := fun j => if j = n then (fun o => (newCells p).getD o undef) else F j

theorem rsem_more {w w2 : World} {S S' : Nat → Prop} {st : St} {F : Nat → Nat → Value} (h : RSem w S st F) (hS : ∀ g, S g → S' g) (hk : ∀ (b : Nat) (cur : Array Value), w.heap[b]? = some (.cells cur 55 (0, 0)) → w2.heap[b]? = w.heap[b]?) (p : Int) : RSem w2 S' (mk st p) (moreF F st.sfs.length p) := by
  refine ⟨fun j hj => ?_, fun j hj => ?_, fun j hj => ?_⟩
  · rw [mk_len] at hj
    rw [mk_sf]
    unfold moreF
    by_cases e : j = st.sfs.length
    · rw [if_pos e, if_pos e]
      exact ⟨rfl, rfl, rfl, rfl, rfl, rfl, rfl, rfl, rfl, rfl, rfl, rfl, rfl, rfl, rfl, rfl, rfl, rfl, rfl, rfl, rfl, rfl, rfl, rfl, rfl, ⟨_, _, _, rfl⟩⟩
    · rw [if_neg e, if_neg e]
      exact h.rel j (by omega)
  · rw [mk_len] at hj
    rw [mk_sf]
    unfold moreF
    by_cases e : j = st.sfs.length
    · rw [if_pos e, if_pos e]
      exact PixRow.nil _ _
    · rw [if_neg e, if_neg e]
      exact ((h.pixN j (by omega)).mono hS).other hk
  · rw [mk_len] at hj
    rw [mk_sf]
    unfold moreF
    by_cases e : j = st.sfs.length
    · rw [if_pos e, if_pos e]
      exact PixRow.nil _ _
    · rw [if_neg e, if_neg e]
      exact ((h.pixX j (by omega)).mono hS).other hk

/-- Both rows have grown. -/
theorem ref_made {w w1 w2 : World} {S : Nat → Prop} {c : Nat} {st : St} {bv sv ov sv' ov' : Value} {F : Nat → Nat → Value} {p : Int} {xs : List Value} (hr : RRaw w S c st.w st.h st.sfs.length st.order bv sv ov F) (hs : RSem w S st F) (o1 : Obj)
    (hg1 : (w.alloc o1).grownBy w1 sv.ownBlock) (hv1 : w1.ownsRow 0 118 28 sv' (st.sfs.length + 1) (xs ++ newCells p)) (hx : RowS w S 118 28 sv st.sfs.length xs) (hxF : ∀ i, i < st.sfs.length → ∀ o, o < 28 → xs[i * 28 + o]? = some (F i o)) (hl1 : sv'.ownBlock = sv.ownBlock ∨ sv'.ownBlock = some (w.heap.size + 1)) (o2 : Obj)
    (hg2 : ((w1.setCell ⟨c, 3, none⟩ sv').alloc o2).grownBy w2 ov.ownBlock) (hv2 : w2.ownsRow 0 3 1 ov' (st.order.length + 1) ((st.order.map fun (i : Nat) => .int .i64 (i : Int)) ++ [.int .i64 (st.sfs.length : Int)])) (hl2 : ov'.ownBlock = ov.ownBlock ∨ ov'.ownBlock = some (w1.heap.size + 1)) :
    RefOk (w2.setCell ⟨c, 4, none⟩ ov') (grow S w w2) c (mk st p) ∧ Only S w (w2.setCell ⟨c, 4, none⟩ ov') := by
  have z1 := hg1.size
  have z2 := hg2.size
  have z0 : (w.alloc o1).heap.size = w.heap.size + 1 := by simp
  have z3 : ((w1.setCell ⟨c, 3, none⟩ sv').alloc o2).heap.size = w1.heap.size + 1 := by simp
  have hS : ∀ g, S g → grow S w w2 g := fun _ h => grow_self h
  have ha := hr.below (al1 (Nat.le_refl _) o1)
  have hxa : RowS (w.alloc o1) S 118 28 sv st.sfs.length xs := hx.keep fun g _ hg => heap_old w o1 g hg
  have hk1 := grown_other (T := 118) hg1 fun g hg => hxa.type hg
  have hlen := hx.len
  have r1 := ha.newSfs (w2 := w1) (S' := grow S w w2) (sv' := sv') (n' := st.sfs.length + 1) (F' := moreF F st.sfs.length p) hS hk1 ⟨xs ++ newCells p, ⟨hv1, fun g hg => by
      have hlt := (hv1.lt g hg).2
      rcases hl1 with h | h
      · rw [h] at hg; exact .inl (hx.2 g hg)
      · rw [h] at hg; cases hg; exact .inr ⟨by omega, by omega⟩⟩, fun i hi o ho => by
    unfold moreF
    by_cases e : i = st.sfs.length
    · subst e
      rw [if_pos rfl, List.getElem?_append_right (by omega), hlen, show st.sfs.length * 28 + o - st.sfs.length * 28 = o by omega]
      have : o < (newCells p).length := ho
      rw [List.getD_eq_getElem?_getD, List.getElem?_eq_getElem this]
      rfl
    · rw [if_neg e, List.getElem?_append_left (by omega)]
      exact hxF i (by omega) o ho⟩
  have hc1 : w1.heap[c]? = (w.alloc o1).heap[c]? := hk1 _ (by decide) c _ ha.scr
  have r2 := r1.below (al1 (Nat.le_refl _) o2)
  have hk2 := grown_other (T := 3) hg2 fun g hg => r2.ord.type hg
  have r3 := r2.newOrd (w2 := w2) (S' := grow S w w2) (ov' := ov') (ord' := (mk st p).order) (fun _ h => h) hk2 ⟨by
      show w2.ownsRow 0 _ 1 ov' (st.order ++ [st.sfs.length]).length ((st.order ++ [st.sfs.length]).map _)
      rw [List.length_append, List.map_append]
      exact hv2, fun g hg => by
      have hlt := (hv2.lt g hg).2
      rcases hl2 with h | h
      · rw [h] at hg; exact .inl (hr.ord.2 g hg)
      · rw [h] at hg; cases hg; exact .inr ⟨by omega, by omega⟩⟩
  have hpk : ∀ (b : Nat) (cur : Array Value), w.heap[b]? = some (.cells cur 55 (0, 0)) → (w2.setCell ⟨c, 4, none⟩ ov').heap[b]? = w.heap[b]? := fun b cur hb => by
    have hbl := (Array.getElem?_eq_some_iff.1 hb).1
    have hbc : b ≠ c := ne_of_type hb hr.scr (by decide)
    have q1 : (w.alloc o1).heap[b]? = w.heap[b]? := heap_old w o1 b hbl
    have q2 := hk1 _ (by decide) b cur (q1.trans hb)
    have q3 : (w1.setCell ⟨c, 3, none⟩ sv').heap[b]? = w1.heap[b]? := heap_setCell_other w1 ⟨c, 3, none⟩ b sv' hbc
    have q4 : ((w1.setCell ⟨c, 3, none⟩ sv').alloc o2).heap[b]? = (w1.setCell ⟨c, 3, none⟩ sv').heap[b]? := heap_old _ o2 b (by simp; omega)
    have q5 := hk2 55 (by decide) b cur (q4.trans (q3.trans (q2.trans (q1.trans hb))))
    rw [heap_setCell_other w2 ⟨c, 4, none⟩ b ov' hbc, q5, q4, q3, q2, q1]
  refine ⟨⟨bv, sv', ov', moreF F st.sfs.length p, ?_, rsem_more hs hS hpk p⟩, ?_⟩
  · have h9 := r3
    rw [← mk_len st p] at h9
    exact h9
  · have a1 : Only S w w1 := ((Only.refl S w).alloc o1).grown hg1 fun g hg => .inl (hx.2 g hg)
    have a2 : Only S w w2 := ((a1.set (p := ⟨c, 3, none⟩) (.inl hr.own) sv').alloc o2).grown hg2 fun g hg => .inl (hr.ord.2 g hg)
    exact a2.set (p := ⟨c, 4, none⟩) (.inl hr.own) ov'

set_option maxRecDepth 100000 in
set_option maxHeartbeats 1000000 in
/-- (*Screen).Make -/
theorem refMake_any {S : Nat → Prop} {c : Nat} {st : St} (hw : Wf st) (p : Int) (w : World) (h : RefOk w S c st) :
    Calls Tryz.prog 23 #[.pointer (some ⟨c, 0, none⟩), .int .i64 p] w (MPost S c (opMake st p) w) := by
  obtain ⟨i0, hi0, hz0, hz1, hz2⟩ := info_parts intInfo
  obtain ⟨j0, hj0, hy0, hy1, hy2⟩ := info_parts surfInfo
  have hIs := is_any (S := S) (c := c) (st := st) p w h hw.made
  have HSame : Hid (∀ a b : Int, MPost S c (a, b, st) w (.returned (.tuple #[.int .i64 a, .int .i64 b])) w) := fun a b => ⟨rfl, h.mono fun _ hg => grow_self hg, Only.refl _ _⟩
  unfold opMake
  obtain ⟨t, ht⟩ : ∃ t, st.isB p = t := ⟨_, rfl⟩
  rw [ht] at hIs ⊢
  clear ht
  obtain ⟨bv, sv, ov, F, hr, hs⟩ := h
  obtain ⟨k0, k1, k2, k3, k4, kf, kl⟩ := hr.cells
  obtain ⟨sa, scap, hsv⟩ := hr.svForm
  obtain ⟨oa, ocap, hov⟩ := hr.ovForm
  subst hsv hov
  obtain ⟨n, hn⟩ : ∃ n, st.sfs.length = n := ⟨_, rfl⟩
  obtain ⟨m, hm⟩ : ∃ n, st.order.length = n := ⟨_, rfl⟩
  have hmd := hw.made
  have hm12 := hw.len
  have f3 := kf 3
  have f4 := kf 4
  rw [hn] at k3 hmd
  rw [hm] at k4 hm12
  have HIs := hide hIs
  have HH := hide (And.intro hr (And.intro hs (And.intro hn hm)))
  clear hr hs kf hIs
  by_cases hp : p = -1 ∨ t = true
  · rw [if_pos hp]
    have hcond : ¬ (p ≠ -1 ∧ t = false) := by rintro ⟨h1, h2⟩; rcases hp with h | h; exact h1 h; rw [h2] at h; cases h
    by_cases hfull : m < 12 ∧ n < 60
    · rw [if_pos (by rw [hn, hm]; exact hfull)]
      obtain ⟨hm2, hn2⟩ := hfull
      obtain ⟨xs, hx, hxF⟩ := HH.out.1.sfs
      have HX := hide (And.intro hx hxF)
      have HK1 : Hid (∀ (o : Obj) (w1 : World), (w.alloc o).grownBy w1 (Value.slice sa n scap).ownBlock → w1.cell? ⟨c, 3, none⟩ = some (.slice sa n scap) ∧ w1.cell? ⟨c, 4, none⟩ = some (.slice oa m ocap) ∧ w1.frozen? ⟨c, 3, none⟩ = false ∧ w1.frozen? ⟨c, 4, none⟩ = false ∧ c < w1.heap.size ∧ (∀ (v : Value) (o2 : Obj), OwnN ((w1.setCell ⟨c, 3, none⟩ v).alloc o2) 0 (.slice oa m ocap) st.order) ∧ ∀ (v : Value) (o2 : Obj) (w2 : World), ((w1.setCell ⟨c, 3, none⟩ v).alloc o2).grownBy w2 (Value.slice oa m ocap).ownBlock → w2.cell? ⟨c, 4, none⟩ = some (.slice oa m ocap) ∧ w2.frozen? ⟨c, 4, none⟩ = false) := by
        intro o w1 hg
        have hxa : RowS (w.alloc o) S 118 28 (.slice sa n scap) n xs := (by have h9 := HX.out.1; rw [HH.out.2.2.1] at h9; exact h9.keep fun g _ hg => heap_old w o g hg)
        have hk1 := grown_other (T := 118) hg fun g hg => hxa.type hg
        have hra := HH.out.1.below (al1 (Nat.le_refl _) o)
        have hc := (hk1 _ (by decide) c _ hra.scr).trans hra.scr
        have hord := hra.ord.other (hk1 _ (by decide))
        have hsc : HasB w1 c 93 5 := ⟨_, hc, rfl⟩
        rw [HH.out.2.2.1, HH.out.2.2.2] at hc
        have h8 : ∀ (v : Value) (o2 : Obj), OwnN ((w1.setCell ⟨c, 3, none⟩ v).alloc o2) 0 (.slice oa m ocap) st.order := fun v o2 => by
          have h8 := (hord.other (w' := w1.setCell ⟨c, 3, none⟩ v) fun b cur hb => heap_setCell_other w1 ⟨c, 3, none⟩ b v (ne_of_type hb hc (by decide))).1
          rw [HH.out.2.2.2] at h8
          unfold OwnN
          rw [HH.out.2.2.2]
          exact h8.alloc o2
        refine ⟨(cell_of_row w1 c 3 _ _ _ hc).trans rfl, (cell_of_row w1 c 4 _ _ _ hc).trans rfl, hsc.free 3, hsc.free 4, hsc.lt, h8, fun v o2 w2 hg2 => ?_⟩
        have hk2 := grown_other (T := 3) hg2 fun g hg => own_type (h8 v o2) hg
        have hb1 : Blk w1 c 93 #[.int .i64 st.w, .int .i64 st.h, bv, .slice sa n scap, .slice oa m ocap] := hc
        have hb2 := (hb1.set 3 v).alloc o2
        have hb3 : Blk w2 c _ _ := (hk2 _ (by decide) c _ hb2).trans hb2
        exact ⟨hb3.cell 4, hb3.has.free 4⟩
      have HMd : Hid (∀ (w1 w2 : World) (sv' ov' : Value) (o1 o2 : Obj), (w.alloc o1).grownBy w1 (Value.slice sa n scap).ownBlock → w1.ownsRow 0 118 28 sv' (n + 1) (xs ++ newCells p) → (sv'.ownBlock = (Value.slice sa n scap).ownBlock ∨ sv'.ownBlock = some (w.alloc o1).heap.size) → ((w1.setCell ⟨c, 3, none⟩ sv').alloc o2).grownBy w2 (Value.slice oa m ocap).ownBlock → OwnN w2 0 ov' (st.order ++ [n]) → (ov'.ownBlock = (Value.slice oa m ocap).ownBlock ∨ ov'.ownBlock = some ((w1.setCell ⟨c, 3, none⟩ sv').alloc o2).heap.size) → MPost S c ((n : Int), 0, mk st p) w (.returned (.tuple #[.int .i64 (n : Int), .int .i64 0])) (w2.setCell ⟨c, 4, none⟩ ov')) := by
        intro w1 w2 sv' ov' o1 o2 a1 a2 a3 a4 a5 a6
        have hr := HH.out.1
        have hs := HH.out.2.1
        have e1 := HH.out.2.2.1
        have e2 := HH.out.2.2.2
        subst e1 e2
        obtain ⟨q1, q2⟩ := ref_made (p := p) hr hs o1 a1 a2 HX.out.1 HX.out.2 (by simpa using a3) o2 a4 (by unfold OwnN at a5; rw [List.length_append, List.map_append] at a5; exact a5) (by simpa using a6)
        refine ⟨rfl, q1.mono fun g hg => ?_, q2⟩
        rcases hg with hg | hg
        · exact .inl hg
        · exact .inr ⟨hg.1, by simpa using hg.2⟩
      have hm1 : st.order.length ≤ 1000 := by rw [hm]; omega
      have hone : ∀ u ∈ newCells p, u.oneCell' = true := by
        intro u hu
        simp only [newCells, List.mem_cons, List.not_mem_nil, or_false] at hu
        rcases hu with rfl | rfl | rfl | rfl | rfl | rfl | rfl | rfl | rfl | rfl | rfl | rfl | rfl | rfl | rfl | rfl | rfl | rfl | rfl | rfl | rfl | rfl | rfl | rfl | rfl | rfl | rfl | rfl <;> rfl
      have HOne := hide hone
      have HRow : Hid (∀ o, (w.alloc o).ownsRow 0 118 28 (.slice sa n scap) n xs) := fun o => by
        have h9 := HX.out.1.1
        rw [HH.out.2.2.1] at h9
        exact h9.alloc o
      have hml : (m : Int) < 12 := by omega
      have hnl : (n : Int) < 60 := by omega
      rw [hn]
      clear hx hxF hn hm hone
      by_cases hp1 : p = -1
      · subst hp1
        go_enter Tryz.func23, Tryz.ntmps23
        go_wp2_with (first
          | (go_at_call 51; refine HIs.out.mono ?_; rintro e w' ⟨rfl, hw'⟩; replace hw' := hw'.symm; subst hw')
          | (at_builtin; refine wpList_append_row (P := Tryz.prog) rfl (.tmp 40) (.tmp 43) 91 rfl 0 118 j0 _ 28 304 Tryz.underlying91 hj0 hy0 hy1 hy2 rfl (by decide) (.slice sa n scap) n xs rfl (HRow.out _) (.slice (some ⟨w.heap.size, 0, none⟩) 1 1) 1 (newCells (-1)) rfl rfl (.inr ⟨_, _, rfl, World.news_of_block (cs := (newCells (-1)).toArray) (t := 118) (fr := (0, 0)) (heap_alloc_new w _)⟩) HOne.out (by unfold maxLen; omega) (by omega) (by omega) ?_; intro v1 w1 ho1 hg1 hn1 ha1; obtain ⟨va, vc, hvf⟩ := row_form ho1; subst hvf; obtain ⟨y3, y4, z3, z4, ycl, yo, yc⟩ := HK1.out _ w1 hg1; have H1 := hide (And.intro ho1 (And.intro hg1 (And.intro ha1 (And.intro yo yc)))); clear ho1 hg1 hn1 ha1 yo yc)
          | (at_builtin; refine wpList_append_natL rfl (.tmp 51) (.tmp 53) rfl 0 _ st.order rfl (H1.out.2.2.2.1 _ _) w1.heap.size n rfl (by have h9 := heap_alloc_new (w1.setCell ⟨c, 3, none⟩ (.slice va (n + 1) vc)) (.cells #[.int .i64 (n : Int)] 3); simpa using h9) hm1 (by omega) ?_; intro v2 w2 ho2 hg2 ha2; obtain ⟨vb, vd, hvf⟩ := row_form ho2; obtain ⟨mm, hmm⟩ : ∃ k, (st.order ++ [n]).length = k := ⟨_, rfl⟩; rw [hmm] at hvf; subst hvf; clear hmm; obtain ⟨x4, u4⟩ := H1.out.2.2.2.2 _ _ w2 hg2; have H2 := hide (And.intro ho2 (And.intro hg2 ha2)); clear ho2 hg2 ha2))
        go_ret2
        exact HMd.out w1 w2 _ _ _ _ H1.out.2.1 H1.out.1 H1.out.2.2.1 H2.out.2.1 H2.out.1 H2.out.2.2
      · have htt : t = true := by rcases hp with h | h; exact absurd h hp1; exact h
        subst htt
        go_enter Tryz.func23, Tryz.ntmps23
        go_wp2_with (first
          | (go_at_call 51; refine HIs.out.mono ?_; rintro e w' ⟨rfl, hw'⟩; replace hw' := hw'.symm; subst hw')
          | (at_builtin; refine wpList_append_row (P := Tryz.prog) rfl (.tmp 40) (.tmp 43) 91 rfl 0 118 j0 _ 28 304 Tryz.underlying91 hj0 hy0 hy1 hy2 rfl (by decide) (.slice sa n scap) n xs rfl (HRow.out _) (.slice (some ⟨w.heap.size, 0, none⟩) 1 1) 1 (newCells p) rfl rfl (.inr ⟨_, _, rfl, World.news_of_block (cs := (newCells p).toArray) (t := 118) (fr := (0, 0)) (heap_alloc_new w _)⟩) HOne.out (by unfold maxLen; omega) (by omega) (by omega) ?_; intro v1 w1 ho1 hg1 hn1 ha1; obtain ⟨va, vc, hvf⟩ := row_form ho1; subst hvf; obtain ⟨y3, y4, z3, z4, ycl, yo, yc⟩ := HK1.out _ w1 hg1; have H1 := hide (And.intro ho1 (And.intro hg1 (And.intro ha1 (And.intro yo yc)))); clear ho1 hg1 hn1 ha1 yo yc)
          | (at_builtin; refine wpList_append_natL rfl (.tmp 51) (.tmp 53) rfl 0 _ st.order rfl (H1.out.2.2.2.1 _ _) w1.heap.size n rfl (by have h9 := heap_alloc_new (w1.setCell ⟨c, 3, none⟩ (.slice va (n + 1) vc)) (.cells #[.int .i64 (n : Int)] 3); simpa using h9) hm1 (by omega) ?_; intro v2 w2 ho2 hg2 ha2; obtain ⟨vb, vd, hvf⟩ := row_form ho2; obtain ⟨mm, hmm⟩ : ∃ k, (st.order ++ [n]).length = k := ⟨_, rfl⟩; rw [hmm] at hvf; subst hvf; clear hmm; obtain ⟨x4, u4⟩ := H1.out.2.2.2.2 _ _ w2 hg2; have H2 := hide (And.intro ho2 (And.intro hg2 ha2)); clear ho2 hg2 ha2))
        all_goals
          go_ret2
          exact HMd.out w1 w2 _ _ _ _ H1.out.2.1 H1.out.1 H1.out.2.2.1 H2.out.2.1 H2.out.1 H2.out.2.2
    · rw [if_neg (by rw [hn, hm]; exact hfull)]
      rcases hp with hp | hp
      · subst hp
        by_cases hm3 : (m : Int) < 12
        · have hn3 : ¬ (n : Int) < 60 := by omega
          go_enter Tryz.func23, Tryz.ntmps23
          go_wp2_with (go_at_call 51; refine HIs.out.mono ?_; rintro e w' ⟨rfl, hw'⟩; replace hw' := hw'.symm; subst hw')
          go_ret2
          exact HSame.out 0 9
        · go_enter Tryz.func23, Tryz.ntmps23
          go_wp2_with (go_at_call 51; refine HIs.out.mono ?_; rintro e w' ⟨rfl, hw'⟩; replace hw' := hw'.symm; subst hw')
          go_ret2
          exact HSame.out 0 9
      · subst hp
        by_cases hm3 : (m : Int) < 12
        · have hn3 : ¬ (n : Int) < 60 := by omega
          go_enter Tryz.func23, Tryz.ntmps23
          go_wp2_with (go_at_call 51; refine HIs.out.mono ?_; rintro e w' ⟨rfl, hw'⟩; replace hw' := hw'.symm; subst hw')
          all_goals
            go_ret2
            exact HSame.out 0 9
        · go_enter Tryz.func23, Tryz.ntmps23
          go_wp2_with (go_at_call 51; refine HIs.out.mono ?_; rintro e w' ⟨rfl, hw'⟩; replace hw' := hw'.symm; subst hw')
          all_goals
            go_ret2
            exact HSame.out 0 9
  · rw [if_neg hp]
    have h1 : ¬ p = -1 := fun e => hp (.inl e)
    cases t with
    | true => exact absurd (.inr rfl) hp
    | false =>
      go_enter Tryz.func23, Tryz.ntmps23
      go_wp2_with (go_at_call 51; refine HIs.out.mono ?_; rintro e w' ⟨rfl, hw'⟩; replace hw' := hw'.symm; subst hw')
      go_ret2
      exact HSame.out 0 6

end Go.Proofs.YtlaflopimpnjpaaGreat
