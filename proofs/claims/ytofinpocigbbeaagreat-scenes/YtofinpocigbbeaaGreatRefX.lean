import Derived.Test.YtofinpocigbbeaaGreatRefW
namespace Go.Proofs.YtofinpocigbbeaaGreat
open Go.RowKit
attribute [local go_sem ↓] Go.wp_at_zero Go.wp_at_succ

theorem OwnN.alloc {w : World} {base : Nat} {v : Value} {E : List Nat} (h : OwnN w base v E) (o : Obj) : OwnN (w.alloc o) base v E := World.ownsRow.alloc h o

/-- append of one number. -/
theorem wpList_append_nat {w : World} {ops : Array Oper} {rest : List Oper} {o : Oper} {a : Act} {Q : Exit → Act → World → Prop} (hgd : o.guard = none) (s x : Operand)
    (ho : o.op = .call { callee := .builtin .append, args := #[s, x], argTypes := #[24, 24] }) (base : Nat) (v : Value) (E : List Nat) (hs : a.eval s = v) (hown : OwnN w base v E) (b j : Nat) (hx : a.eval x = .slice (some ⟨b, 0, none⟩) 1 1)
    (hb : w.heap[b]? = some (.cells #[.int .i64 (j : Int)] 3 (0, 0))) (hl : E.length ≤ 1000) (hbase : base ≤ w.heap.size)
    (h : ∀ v' w', OwnN w' base v' (E ++ [j]) → w.grownBy w' v.ownBlock → wpList Tryz.prog ops Q rest (a.put o.dst v') w') : wpList Tryz.prog ops Q (o :: rest) a w := by
  obtain ⟨i0, hi0, hz0, hz1, hz2⟩ := info_parts intInfo
  refine wpList_append_row (P := Tryz.prog) hgd s x 24 ho base 3 i0 _ 1 8 Tryz.underlying24 hi0 hz0 hz1 hz2 rfl (by decide) v E.length (E.map fun (i : Nat) => Value.int .i64 (i : Int)) hs hown _ 1 [.int .i64 j] hx rfl (.inr ⟨_, _, rfl, World.news_of_block (cs := #[.int .i64 j]) (t := 3) (fr := (0, 0)) hb⟩) (by simp [Value.oneCell']) (by unfold maxLen; omega) (by omega) hbase ?_
  intro v' w' h1 h2 _ _
  refine h v' w' ?_ h2
  unfold OwnN
  rw [List.length_append, List.map_append]
  exact h1

def stSf (s : Sf) : Sf := { s with ask := false }

def stk (st : St) (id : Nat) : St :=
  { upd st id stSf with order := if st.puts id = true then rsL st.order id (st.sf id).sib.toNat (st.sf id).above else st.order }

def StackPost (S : Nat → Prop) (c : Nat) (st : St) (id : Nat) (w : World) (e : Ending) (w' : World) : Prop := ∃ b : Bool, e = .returned (.bool b) ∧ RefOk w' (grow S w w') c (stk st id) ∧ Only S w w' ∧ ∀ (b : Nat) (cur : Array Value), w.heap[b]? = some (.cells cur 51 (0, 0)) → w'.heap[b]? = w.heap[b]?

/-- It is no longer asked for. -/
theorem RSem.ask {w : World} {S : Nat → Prop} {st : St} {F : Nat → Nat → Value} (h : RSem w S st F) {id g : Nat} {cur : Array Value} (hid : id < st.sfs.length) (hg : w.heap[g]? = some (.cells cur 214 (0, 0))) : RSem (w.setCell ⟨g, id * 28 + 24, none⟩ (.bool false)) S (upd st id stSf) (upF F id 24 (.bool false)) := by
  refine ⟨fun i hi => ?_, fun i hi => ?_, fun i hi => ?_⟩
  · rw [upd_len] at hi
    rw [upd_sf st id stSf i hid]
    by_cases e : i = id
    · subst e
      rw [if_pos rfl, upF_at]
      have q := h.rel i hi
      exact ⟨q.alive, q.parent, q.nw, q.nh, q.nx, q.ny, q.ncut, q.n0, q.n1, q.n2, q.n3, q.nhint, q.xw, q.xh, q.xx, q.xy, q.xcut, q.x0, q.x1, q.x2, q.x3, q.xhint, rfl, q.sib, q.above, q.kept⟩
    · rw [if_neg e, upF_ne _ _ _ _ e]
      exact h.rel i hi
  · rw [upd_len] at hi
    have q := (h.pixN i hi).setOther (j := id * 28 + 24) (u := .bool false) hg
    rw [upd_sf st id stSf i hid]
    by_cases e : i = id
    · subst e
      rw [if_pos rfl, upF_at]
      exact q
    · rw [if_neg e, upF_ne _ _ _ _ e]
      exact q
  · rw [upd_len] at hi
    have q := (h.pixX i hi).setOther (j := id * 28 + 24) (u := .bool false) hg
    rw [upd_sf st id stSf i hid]
    by_cases e : i = id
    · subst e
      rw [if_pos rfl, upF_at]
      exact q
    · rw [if_neg e, upF_ne _ _ _ _ e]
      exact q

/-- The screen has another order. -/
theorem RRaw.setOrd {w : World} {S S' : Nat → Prop} {c : Nat} {W H : Int} {n : Nat} {ord ord' : List Nat} {bv sv ov ov' : Value} {F : Nat → Nat → Value} (h : RRaw w S c W H n ord bv sv ov F) (hS : ∀ g, S g → S' g) (ho : RowS w S' 3 1 ov' ord'.length (ord'.map fun (i : Nat) => .int .i64 (i : Int))) : RRaw (w.setCell ⟨c, 4, none⟩ ov') S' c W H n ord' bv sv ov' F := by
  obtain ⟨h1, h2, ⟨xs, h3, h4⟩, h5, nb, ys, h6, h7, h8⟩ := h
  have hk : ∀ (T : TypeId), T ≠ 202 → ∀ (b : Nat) (cur : Array Value), w.heap[b]? = some (.cells cur T (0, 0)) → (w.setCell ⟨c, 4, none⟩ ov').heap[b]? = w.heap[b]? := fun T hT b cur hb => heap_setCell_other w ⟨c, 4, none⟩ b ov' (ne_of_type hb h1 hT)
  refine ⟨heap_setCell_same w c 4 _ _ ov' h1, hS _ h2, ⟨xs, (h3.mono hS).other (hk _ (by decide)), h4⟩, ho.other (hk _ (by decide)), nb, ys, h6, (h7.mono hS).other (hk _ (by decide)), fun k hk2 => ?_⟩
  obtain ⟨dv, m, e1, e2, zs, e3⟩ := h8 k hk2
  exact ⟨dv, m, e1, e2, zs, (e3.mono hS).other (hk _ (by decide))⟩

theorem RSem.setC {w : World} {S S' : Nat → Prop} {st : St} {F : Nat → Nat → Value} (h : RSem w S st F) (hS : ∀ g, S g → S' g) {c j : Nat} {cur : Array Value} {u : Value} (hc : w.heap[c]? = some (.cells cur 202 (0, 0))) : RSem (w.setCell ⟨c, j, none⟩ u) S' st F :=
  ⟨h.rel, fun i hi => ((h.pixN i hi).mono hS).other fun b _ hb => heap_setCell_other w ⟨c, j, none⟩ b u (ne_of_type hb hc (by decide)), fun i hi => ((h.pixX i hi).mono hS).other fun b _ hb => heap_setCell_other w ⟨c, j, none⟩ b u (ne_of_type hb hc (by decide))⟩

theorem rsL_next {l : List Nat} {k : Nat} (hk : k < l.length) (id sib : Nat) (above : Bool) : rsL (l.take (k + 1)) id sib above = rsL (l.take k) id sib above ++ ((if l[k] = sib ∧ above = false then [id] else []) ++ ((if l[k] ≠ id then [l[k]] else []) ++ (if l[k] = sib ∧ above = true then [id] else []))) := by
  unfold rsL
  rw [List.take_succ_eq_append_getElem hk, List.flatMap_append]
  simp

theorem rsL_len (id sib : Nat) (above : Bool) : ∀ l : List Nat, (rsL l id sib above).length ≤ 2 * l.length := by
  intro l
  induction l with
  | nil => simp [rsL]
  | cons a l ih =>
    unfold rsL at *
    rw [List.flatMap_cons, List.length_append, List.length_cons]
    have : ((if a = sib ∧ above = false then [id] else []) ++ ((if a ≠ id then [a] else []) ++ (if a = sib ∧ above = true then [id] else []))).length ≤ 2 := by
      split <;> split <;> split <;> simp_all
    omega

theorem stk_no {st : St} {id : Nat} (h : st.puts id = false) : stk st id = upd st id stSf := by
  unfold stk
  rw [h]
  rfl

set_option maxRecDepth 100000 in
set_option maxHeartbeats 2000000 in
/-- (*Screen).stacked, where nothing comes of it. -/
theorem stacked_no {S : Nat → Prop} {c : Nat} {st : St} (hw : Wf st) (id : Nat) (hid : id ∈ st.order) (hp : st.puts id = false) (w : World) (h : RefOk w S c st) :
    Calls Tryz.prog 131 #[.pointer (some ⟨c, 0, none⟩), .int .i64 id] w (StackPost S c st id w) := by
  have hil := hw.lt hid
  have hIs := fun (W : World) (hW : W = w) => is_any (S := S) (c := c) (st := st) (st.sf id).sib W (by rw [hW]; exact h) hw.made
  obtain ⟨bv, sv, ov, F, hr, hs⟩ := h
  obtain ⟨k0, k1, k2, k3, k4, kf, kl⟩ := hr.cells
  obtain ⟨g, cap, e1, e2, e3, e4, e5, e6⟩ := hr.at (by omega)
  subst e1
  have c24 := e5 id hil 24 (by omega)
  have c25 := e5 id hil 25 (by omega)
  rw [(hs.rel id hil).ask] at c24
  rw [(hs.rel id hil).sib] at c25
  have f24 := e6 (id * 28 + 24)
  obtain ⟨n, hn⟩ : ∃ n, st.sfs.length = n := ⟨_, rfl⟩
  have hmd := hw.made
  rw [hn] at k3 e3 hmd
  have hin : id < n := by omega
  have hcap : id < cap := by omega
  obtain ⟨_, cur, hcur⟩ := hr.gType
  have HFin : Hid (StackPost S c st id w (.returned (.bool false)) (w.setCell ⟨g, id * 28 + 24, none⟩ (.bool false))) := by
    refine ⟨false, rfl, ?_, (Only.refl S w).set (.inl e2) _, fun b cb hb => heap_setCell_other w ⟨g, id * 28 + 24, none⟩ b _ (ne_of_type hb hcur (by decide))⟩
    rw [stk_no hp]
    refine RefOk.mono ?_ (fun b hb => grow_self hb)
    exact ⟨bv, _, ov, _, by have h9 := hr.set hil (show 24 < 28 by omega) (.bool false); rw [← upd_len st id stSf] at h9; exact h9, hs.ask hil hcur⟩
  unfold St.puts at hp
  generalize (st.sf id).sib = sb at *
  generalize (st.sf id).ask = ak at *
  obtain ⟨t, ht⟩ : ∃ t, st.isB sb = t := ⟨_, rfl⟩
  rw [ht] at hIs hp
  clear hr hs kf hn e5 e6 ht hcur hil
  have HIs := hide hIs
  clear hIs
  cases ak <;> cases t <;> simp at hp
  all_goals
    go_enter Tryz.func131, Tryz.ntmps131
    go_wp2_with (go_at_call 127; refine (HIs.out _ rfl).mono ?_; rintro e w' ⟨rfl, hw'⟩; replace hw' := hw'.symm; subst hw')
    go_ret
    exact HFin.out

end Go.Proofs.YtofinpocigbbeaaGreat
