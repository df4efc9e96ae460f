import Derived.Test.YtlaflopimpnjpaaGreatSg09
/-! PanL -/
namespace Go.Proofs.YtlaflopimpnjpaaGreat
open Go.RowKit
attribute [local go_sem ↓] Go.wp_at_zero Go.wp_at_succ

theorem filter_erase : ∀ (l : List Nat) (k i : Nat), l.Nodup → l[k]? = some i → (l.filter fun j => decide (j ≠ i)) = l.eraseIdx k
  | [], k, i, _, h => by simp at h
  | a :: l, 0, i, hn, h => by
    simp at h
    subst h
    rw [List.nodup_cons] at hn
    rw [List.filter_cons, if_neg (by simp), List.eraseIdx_cons_zero, List.filter_eq_self]
    intro b hb
    simp
    rintro rfl
    exact hn.1 hb
  | a :: l, k + 1, i, hn, h => by
    rw [List.nodup_cons] at hn
    have h2 : l[k]? = some i := by simpa using h
    have hi : i ∈ l := List.mem_of_getElem? h2
    rw [List.filter_cons, if_pos (by simp; rintro rfl; exact hn.1 hi), List.eraseIdx_cons_succ, filter_erase l k i hn.2 h2]

theorem rm_live {st : St} {i : Nat} {q : Int} (h : Live (rm st i) q) : Live st q ∧ i ∉ st.chain q := by
  rcases h with rfl | ⟨j, rfl, hj⟩
  · exact ⟨live_top st, by rw [chain_neg st (by omega)]; simp⟩
  · have hj2 : j ∈ st.order.filter fun (o : Nat) => !(st.chain o).contains i := hj
    rw [List.mem_filter] at hj2
    exact ⟨live_nat hj2.1, by simpa using hj2.2⟩

/-- A surface is gone, with all that was on it. -/
theorem PRaw.less {w w' : World} {S : Nat → Prop} {x : Nat} {st : St} (hw : Wf st) {bv : Value} {sc mp : Nat} {blk : Int → Nat} {G : Int → Nat → Value} (h : PRaw w S x st bv sc mp blk G) {i : Nat} (hi : i ∈ st.order) {p : Int} (hpe : (st.sf i).parent = p) {k : Nat} (hk : (st.kids p)[k]? = some i) {v : Value}
    (hmap : MapOf w' mp (rm st i).order fun (j : Nat) => blk j)
    (hpar : SrfB w' (blk p) (upO (G p) 2 v))
    (hrow : RowS w' S 111 1 v ((st.kids p).length - 1) (((st.kids p).eraseIdx k).map fun (j : Nat) => ptrV (blk j)))
    (hvb : v.ownBlock = (G p 2).ownBlock)
    (hoth : ∀ g, g < w.heap.size → g ≠ mp → g ≠ blk p → some g ≠ (G p 2).ownBlock → w'.heap[g]? = w.heap[g]?) :
    PRaw w' S x (rm st i) bv sc mp blk (upG G p (upO (G p) 2 v)) := by
  have hp : Live st p := by rw [← hpe]; exact live_par hw hi
  have hlt : ∀ {g : Nat} {o : Obj}, w.heap[g]? = some o → g < w.heap.size := fun {g o} hg => (Array.getElem?_eq_some_iff.1 hg).1
  obtain ⟨pc, hpc, hpcs⟩ := h.srf p hp
  have rowT : ∀ g, some g = (G p 2).ownBlock → ∃ cur, w.heap[g]? = some (.cells cur 111 (0, 0)) := fun g hg => (h.on p hp).type hg.symm
  have hown : ∀ q, (upG G p (upO (G p) 2 v) q 2).ownBlock = (G q 2).ownBlock := fun q => by
    unfold upG
    by_cases e : q = p
    · subst e
      rw [if_pos rfl]
      show v.ownBlock = _
      exact hvb
    · rw [if_neg e]
  refine ⟨?_, ?_, hmap, fun q hq => ?_, ⟨h.own.1, h.own.2.1, h.own.2.2.1, fun q hq => h.own.2.2.2 q (rm_live hq).1⟩, fun q q' hq hq' e => h.inj q q' (rm_live hq).1 (rm_live hq').1 e, fun q hq => ?_, fun q q' hq hq' hne g hg => ?_, fun q hq => ?_⟩
  · refine (hoth x (hlt h.scr) (h.map.ne h.scr) (neT h.scr hpc (by decide)) fun e => ?_).trans h.scr
    obtain ⟨c, hc⟩ := rowT x e
    exact neT h.scr hc (by decide) rfl
  · rw [rm_len]
    refine (hoth sc (hlt h.sce) (h.map.ne h.sce) (neT h.sce hpc (by decide)) fun e => ?_).trans h.sce
    obtain ⟨c, hc⟩ := rowT sc e
    exact neT h.sce hc (by decide) rfl
  · unfold upG
    by_cases e : q = p
    · subst e; rw [if_pos rfl]; exact hpar
    · rw [if_neg e]
      obtain ⟨c, hc, hc2⟩ := h.srf q (rm_live hq).1
      refine ⟨c, (hoth _ (hlt hc) (h.map.ne hc) (fun e2 => e (h.inj q p (rm_live hq).1 hp e2)) fun e2 => ?_).trans hc, hc2⟩
      obtain ⟨c2, hc2⟩ := rowT _ e2
      exact neT hc hc2 (by decide) rfl
  · rw [rm_kids hw i q (rm_live hq).2]
    unfold upG
    by_cases e : q = p
    · subst e
      rw [if_pos rfl, filter_erase (st.kids q) k i (hw.nd.filter _) hk, List.length_eraseIdx, if_pos (List.getElem?_eq_some_iff.1 hk).1]
      exact hrow
    · rw [if_neg e]
      have hsame : ((st.kids q).filter fun j => decide (j ≠ i)) = st.kids q := by
        rw [List.filter_eq_self]
        intro j hj
        simp
        rintro rfl
        exact e (by rw [← (kids_mem.1 hj).2, hpe])
      rw [hsame]
      have hr := h.on q (rm_live hq).1
      refine ⟨own_keep hr.1 fun g hg => ?_, hr.2⟩
      obtain ⟨c, hc⟩ := hr.type hg
      exact hoth g (hlt hc) (h.map.ne hc) (neT hc hpc (by decide)) fun e2 => h.apart q p (rm_live hq).1 hp e g hg e2.symm
  · rw [hown] at hg ⊢
    exact h.apart q q' (rm_live hq).1 (rm_live hq').1 hne g hg
  · have hc := h.cells q (rm_live hq).1
    have hc3 : PCells blk (rm st i) q (G q) := by
      refine hc.other rfl rfl fun hq1 => ?_
      rw [rm_sf st hw, if_neg]
      intro hg
      have h1 := (rm_live hq).2
      rcases hq with rfl | ⟨j, rfl, hj⟩
      · exact hq1 rfl
      · rw [Int.toNat_natCast] at hg
        exact h1 (gone_mem.1 hg).2
    unfold upG
    by_cases e : q = p
    · rw [if_pos e]
      subst e
      exact ⟨hc3.num, hc3.par, ⟨hc3.now.w, hc3.now.h, hc3.now.pix, hc3.now.x, hc3.now.y, hc3.now.c0, hc3.now.c1, hc3.now.c2, hc3.now.c3, hc3.now.cut⟩, (by obtain ⟨l, h1, h2⟩ := hc3.next; exact ⟨l, ⟨h1.w, h1.h, h1.pix, h1.x, h1.y, h1.c0, h1.c1, h1.c2, h1.c3, h1.cut⟩, h2⟩), hc3.stk⟩
    · rw [if_neg e]
      exact hc3

theorem rm_order {st : St} (hw : Wf st) {i : Nat} (hi : i ∈ st.order) : rmF st.order (i :: st.dfs i) = (rm st i).order := by
  unfold rmF
  show _ = st.order.filter _
  refine List.filter_congr fun o ho => ?_
  congr 1
  rw [Bool.eq_iff_iff]
  have := (gone_perm hw i hi).mem_iff (a := o)
  rw [gone_mem] at this
  simp only [List.contains_iff_mem]
  rw [this]
  exact ⟨fun h => h.2, fun h => ⟨ho, h⟩⟩

end Go.Proofs.YtlaflopimpnjpaaGreat

/-! PanN -/
namespace Go.Proofs.YtlaflopimpnjpaaGreat
open Go.RowKit
attribute [local go_sem ↓] Go.wp_at_zero Go.wp_at_succ

/-- The row of what lies on a surface, as find reads it. -/
theorem PRaw.ptrs {w : World} {S : Nat → Prop} {x : Nat} {st : St} {bv : Value} {sc mp : Nat} {blk : Int → Nat} {G : Int → Nat → Value} (h : PRaw w S x st bv sc mp blk G) {p : Int} (hp : Live st p) : Ptrs w (G p 2) (st.kids p) fun (j : Nat) => blk j := by
  have hr := h.on p hp
  obtain ⟨a, c, ha⟩ := hr.form
  refine ⟨⟨a, c, ha, fun k hk => ?_⟩, fun j hj => ?_⟩
  · obtain ⟨g, cap, e1, e2, e3, e4, e5, e6⟩ := hr.open (by omega)
    rw [ha] at e1
    injection e1 with e1
    refine ⟨g, e1, e4, e5 k _ ?_⟩
    rw [List.getElem?_map, List.getElem?_eq_getElem hk]
    rfl
  · obtain ⟨kc, kf, kl⟩ := h.at (live_kid hj)
    refine ⟨?_, kl⟩
    rw [kc 0 (by omega), (h.cells j (live_kid hj)).num]

/-- The row of what lies on a surface on which something lies. -/
theorem PRaw.rowAt {w : World} {S : Nat → Prop} {x : Nat} {st : St} {bv : Value} {sc mp : Nat} {blk : Int → Nat} {G : Int → Nat → Value} (h : PRaw w S x st bv sc mp blk G) {p : Int} (hp : Live st p) (hne : st.kids p ≠ []) :
    ∃ g n cap cur, G p 2 = .slice (some ⟨g, 0, none⟩) (n + 1) cap ∧ (st.kids p).length = n + 1 ∧ w.heap[g]? = some (.cells cur 111 (0, 0)) ∧ cur.size = cap ∧ cap ≤ maxLen ∧ n + 1 ≤ cap ∧ cur.toList.take (n + 1) = ((st.kids p).map fun (j : Nat) => ptrV (blk j)) ∧ S g := by
  have hr := h.on p hp
  have hl : 0 < (st.kids p).length := List.length_pos_iff.2 hne
  obtain ⟨h1, h2⟩ := hr
  obtain ⟨h3, h4⟩ := h1
  rcases h4 with ⟨_, h4⟩ | ⟨g, cap, cur, e1, e2, e3, e4, e5, e6, e7⟩
  · omega
  · obtain ⟨n, hn⟩ : ∃ n, (st.kids p).length = n + 1 := ⟨(st.kids p).length - 1, by omega⟩
    rw [hn] at e1 e4 e7
    exact ⟨g, n, cap, cur, e1, hn, e3, by rw [e6, Nat.mul_one], e5, e4, by rw [← e7, Nat.mul_one], h2 g (by rw [e1]; rfl)⟩

theorem idx_is {L : List Nat} {i : Nat} (hi : i ∈ L) {r : Int} (h : IdxIs L (i : Int) r) : ∃ k : Nat, r = k ∧ L[k]? = some i := by
  rcases h with ⟨_, h⟩ | ⟨k, j, h1, h2, h3⟩
  · exact absurd rfl (h i hi)
  · have : j = i := by omega
    subst this
    exact ⟨k, h1, h2⟩

/-- Behind the Delete: the row has one less. -/
structure DMid (w wx : World) (S : Nat → Prop) (st : St) (G : Int → Nat → Value) (blk : Int → Nat) (p : Int) (pb g n cap mp k : Nat) : Prop where
  map : wx.heap[mp]? = w.heap[mp]?
  srf : SrfB wx pb (upO (G p) 2 (.slice (some ⟨g, 0, none⟩) n cap))
  row : RowS wx S 111 1 (.slice (some ⟨g, 0, none⟩) n cap) n (((st.kids p).eraseIdx k).map fun (j : Nat) => ptrV (blk j))
  oth : ∀ b, b < w.heap.size → b ≠ pb → b ≠ g → wx.heap[b]? = w.heap[b]?
  only : Only S w wx

set_option maxRecDepth 100000 in
set_option maxHeartbeats 1000000 in
/-- (*Scene).Destroy -/
theorem scDestroy_any {w : World} {S : Nat → Prop} {x : Nat} {st : St} (hw : Wf st) {bv : Value} {sc mp : Nat} {blk : Int → Nat} {G : Int → Nat → Value} (h : PRaw w S x st bv sc mp blk G) (i : Nat) (hi : i ∈ st.order) :
    Calls Tryz.prog 53 #[.pointer (some ⟨sc, 0, none⟩), .pointer (some ⟨blk i, 0, none⟩)] w fun e w' => e = .returned (.tuple #[]) ∧ PaneOk w' (grow S w w') x (rm st i) ∧ Only S w w' := by
  obtain ⟨p, hpe⟩ : ∃ p, (st.sf i).parent = p := ⟨_, rfl⟩
  have hp : Live st p := by rw [← hpe]; exact live_par hw hi
  have hik : i ∈ st.kids p := kids_mem.2 ⟨hi, hpe⟩
  obtain ⟨g, n, cap, cur, r1, r2, r3, r4, r5, r6, r7, r8⟩ := h.rowAt hp (List.ne_nil_of_mem hik)
  have hk12n := kids_len hw p
  rw [r2] at hk12n
  obtain ⟨ic, _, il⟩ := h.at (live_nat hi)
  obtain ⟨pc, pf, pl⟩ := h.at hp
  have q := (h.cells i (live_nat hi)).nat
  have i0 := ic 0 (by omega)
  have i1 := ic 1 (by omega)
  rw [q.num] at i0
  rw [q.par, hpe] at i1
  have p2 := pc 2 (by omega)
  rw [r1] at p2
  have f2 := pf 2
  have HFind : Hid (∀ W : World, Below w.heap.size w W → Calls Tryz.prog 102 #[.pointer (some ⟨blk p, 0, none⟩), .int .i64 (i : Int)] W fun e w' => ∃ k : Nat, e = .returned (.int .i64 (k : Int)) ∧ (st.kids p)[k]? = some i ∧ Below w.heap.size w w') := fun W hW => by
    refine (find_any (st.kids p) (fun (j : Nat) => blk j) (i : Int) (G p 2) (blk p) W ?_ (Nat.lt_of_lt_of_le pl hW.size) ((h.ptrs hp).below hW) (by have := kids_len hw p; omega)).mono ?_
    · rw [hW.cell (p := ⟨blk p, 2, none⟩) pl, pc 2 (by omega)]
    · rintro e w' ⟨r, rfl, hr, hb⟩
      obtain ⟨k, rfl, hk⟩ := idx_is hik hr
      exact ⟨k, rfl, hk, hW.trans (hb.mono hW.size)⟩
  obtain ⟨pcur, hpcur, hpcs⟩ := h.srf p hp
  have hpg : blk p ≠ g := neT hpcur r3 (by decide)
  obtain ⟨icur, hicur, _⟩ := h.srf i (live_nat hi)
  have hig : blk i ≠ g := neT hicur r3 (by decide)
  have hmpg : mp ≠ g := fun e => h.map.ne r3 e.symm
  have hmpp : mp ≠ blk p := fun e => h.map.ne hpcur e.symm
  have hgl : g < w.heap.size := (Array.getElem?_eq_some_iff.1 r3).1
  have HD : Hid (∀ k, k < n + 1 → ∀ W : World, Below w.heap.size w W → Calls Tryz.prog 103 #[.slice (some ⟨g, 0, none⟩) (n + 1) cap, .int .i64 (k : Int), .int .i64 ((k : Int) + 1)] W fun e w' => e = .returned (.slice (some ⟨g, 0, none⟩) n cap) ∧ (∃ cur' : Array Value, w'.heap[g]? = some (.cells cur' 111 (0, 0)) ∧ cur'.size = cap ∧ cur'.toList.take n = (cur.toList.take (n + 1)).eraseIdx k) ∧ W.grownBy w' (some g) ∧ w'.heap.size = W.heap.size) := fun k hk W hW => by
    refine delete_any g n cap k cur W ((hW.block g hgl).trans r3) r4 r5 r6 hk fun u hu => ?_
    rw [r7] at hu
    obtain ⟨j, _, rfl⟩ := List.mem_map.1 hu
    rfl
  have HMid : Hid (∀ k, (st.kids p)[k]? = some i → ∀ W W' : World, Below w.heap.size w W → ((∃ cur' : Array Value, W'.heap[g]? = some (.cells cur' 111 (0, 0)) ∧ cur'.size = cap ∧ cur'.toList.take n = (cur.toList.take (n + 1)).eraseIdx k) ∧ W.grownBy W' (some g) ∧ W'.heap.size = W.heap.size) →
      W'.cell? ⟨blk i, 1, none⟩ = some (.pointer (some ⟨blk p, 0, none⟩)) ∧ W'.cell? ⟨blk p, 2, none⟩ = some (.slice (some ⟨g, 0, none⟩) (n + 1) cap) ∧ W'.frozen? ⟨blk p, 2, none⟩ = false ∧ DMid w (W'.setCell ⟨blk p, 2, none⟩ (.slice (some ⟨g, 0, none⟩) n cap)) S st G blk p (blk p) g n cap mp k) := fun k hk W W' hW ⟨⟨cur', c1, c2, c3⟩, g1, s1⟩ => by
    have hWo : ∀ b, b < w.heap.size → b ≠ g → W'.heap[b]? = w.heap[b]? := fun b hb hne => by
      rw [g1.block b (Nat.lt_of_lt_of_le hb hW.size) (fun e => hne (by injection e)), hW.block b hb]
    have hs : SrfB w (blk p) (G p) := h.srf p hp
    have hset : ∀ b, b ≠ blk p → (W'.setCell ⟨blk p, 2, none⟩ (.slice (some ⟨g, 0, none⟩) n cap)).heap[b]? = W'.heap[b]? := fun b hne => heap_setCell_other W' ⟨blk p, 2, none⟩ b _ hne
    refine ⟨?_, ?_, ?_, ?_, ?_, ?_, fun b hb h1 h2 => ?_, ?_⟩
    · rw [World.cell?_of_block (w := w) (a := ⟨blk i, 1, none⟩) (hWo _ il hig), i1]
      rfl
    · rw [World.cell?_of_block (w := w) (a := ⟨blk p, 2, none⟩) (hWo _ pl hpg), p2]
    · rw [World.frozen?_of_block (w := w) (a := ⟨blk p, 2, none⟩) (hWo _ pl hpg)]
      exact f2
    · rw [hset mp hmpp, hWo mp h.map.lt hmpg]
    · exact (hs.keep (hWo _ pl hpg)).set 2 _
    · refine ⟨⟨?_, .inr ⟨g, cap, cur', rfl, Nat.zero_le _, (hset g (fun e => hpg e.symm)).trans c1, by omega, r5, by rw [c2, Nat.mul_one], ?_⟩⟩, fun b hb => ?_⟩
      · rw [List.length_map, List.length_eraseIdx, if_pos (List.getElem?_eq_some_iff.1 hk).1]
        omega
      · rw [Nat.mul_one, c3, r7]
        exact (ChangeMaps.map_eraseIdx _ _ _).symm
      · simp [Value.ownBlock] at hb
        subst hb
        exact r8
    · rw [hset b h1, hWo b hb h2]
    · refine Only.set ((Only.below hW).grown g1 fun b e => .inl ?_) (.inl (h.own.2.2.2 p hp)) _
      injection e with e
      rw [← e]
      exact r8
  have HForget : Hid (∀ k, (st.kids p)[k]? = some i → ∀ wx : World, DMid w wx S st G blk p (blk p) g n cap mp k → Calls Tryz.prog 104 #[.pointer (some ⟨sc, 0, none⟩), .pointer (some ⟨blk i, 0, none⟩)] wx fun e w' => e = .returned (.tuple #[]) ∧ PaneOk w' (grow S w w') x (rm st i) ∧ Only S w w') := fun k hk wx D => by
    have hscp : sc ≠ blk p := neT h.sce hpcur (by decide)
    have hscg : sc ≠ g := neT h.sce r3 (by decide)
    have hscl := (Array.getElem?_eq_some_iff.1 h.sce).1
    have hscm : sc ≠ mp := h.map.ne h.sce
    have hpi : (i : Int) ≠ p := fun e => by
      have := hw.par i
      rw [hpe] at this
      omega
    have hsub : ∀ j ∈ i :: st.dfs i, j ∈ st.order ∧ (j : Int) ≠ p := fun j hj => by
      have h1 := gone_mem.1 ((gone_perm hw i hi).mem_iff.1 hj)
      refine ⟨h1.1, fun e => ?_⟩
      have h2 := chain_le hw.par (j + 1) j (by omega) i h1.2
      have h3 := hw.par i
      rw [hpe] at h3
      omega
    have hFT : ∀ j ∈ i :: st.dfs i, FT wx st blk mp j ∧ j ∈ st.order := fun j hj => by
      obtain ⟨hjo, hjp⟩ := hsub j hj
      have hlj := live_nat hjo
      obtain ⟨jc, _, jl⟩ := h.at hlj
      obtain ⟨jcur, hjcur, _⟩ := h.srf j hlj
      have e1 : wx.heap[blk j]? = w.heap[blk j]? := D.oth _ jl (fun e => hjp (h.inj j p hlj hp e)) (neT hjcur r3 (by decide))
      have hjl2 : blk j < wx.heap.size := Nat.lt_of_lt_of_le jl D.only.size
      refine ⟨⟨?_, hjl2, fun e => h.map.ne hjcur e, ?_⟩, hjo⟩
      · rw [World.cell?_of_block (w := w) (a := ⟨blk j, 0, none⟩) e1, jc 0 (by omega), (h.cells j hlj).num]
      · obtain ⟨⟨a, c, ha, hcs⟩, _⟩ := h.ptrs hlj
        refine ⟨a, c, ?_, fun m hm => ?_⟩
        · rw [World.cell?_of_block (w := w) (a := ⟨blk j, 2, none⟩) e1, jc 2 (by omega), ha]
        · obtain ⟨b, rfl, b2, b3⟩ := hcs m hm
          have hob : (G j 2).ownBlock = some b := by rw [ha]; rfl
          obtain ⟨bc, hbc⟩ := (h.on j hlj).type hob
          have hbg : b ≠ g := fun e => h.apart j p hlj hp hjp b hob (by rw [r1, e]; rfl)
          have e2 : wx.heap[b]? = w.heap[b]? := D.oth _ b2 (neT hbc hpcur (by decide)) hbg
          exact ⟨b, rfl, Nat.lt_of_lt_of_le b2 D.only.size, h.map.ne hbc, by rw [World.cell?_of_block (w := w) (a := ⟨b, m, none⟩) e2]; exact b3⟩
    refine (forget_any hw hscm (st.need i) i st.order wx hi (Nat.le_refl _) hw.nd hFT (h.map.keep D.map) ?_).mono ?_
    · rw [World.cell?_of_block (w := w) (a := ⟨sc, 1, none⟩) (D.oth sc hscl hscp hscg)]
      exact h.sceCells.2.1
    · rintro e w' ⟨rfl, m', g', s'⟩
      rw [rm_order hw hi] at m'
      have hk2 : ∀ b, b ≠ mp → b < wx.heap.size → w'.heap[b]? = wx.heap[b]? := fun b hne hb => g'.block b hb (fun e => hne (by injection e))
      have hkl : n = (st.kids p).length - 1 := by omega
      refine ⟨rfl, PaneOk.mono ⟨bv, sc, mp, blk, _, h.less hw hi hpe hk m' (D.srf.keep (hk2 _ (fun e => hmpp e.symm) (Nat.lt_of_lt_of_le pl D.only.size))) ?_ (by rw [r1]; rfl) fun b hb h1 h2 h3 => ?_⟩ (fun _ hg => grow_self hg), D.only.grown g' fun b e => .inl ?_⟩
      · have hr := D.row
        rw [← hkl]
        exact ⟨own_keep hr.1 fun b hb => hk2 b (fun e => by
          simp [Value.ownBlock] at hb
          exact hmpg (by rw [← e, hb])) (hr.1.lt b hb).2, hr.2⟩
      · rw [hk2 b h1 (Nat.lt_of_lt_of_le hb D.only.size)]
        exact D.oth b hb h2 (fun e => h3 (by rw [r1, e]; rfl))
      · injection e with e
        rw [← e]
        exact h.own.2.2.1
  unfold ptrV at i1
  obtain ⟨pb, hpb⟩ : ∃ pb, blk p = pb := ⟨_, rfl⟩
  obtain ⟨ib, hib⟩ : ∃ ib, blk i = ib := ⟨_, rfl⟩
  rw [hpb] at HFind i1 p2 f2 pl HMid HForget
  rw [hib] at i0 i1 il HForget HMid ⊢
  clear h q ic pc pf r1 r3 r7 hpcur hpcs hpg hmpg hmpp hpb hib hicur hig
  go_enter Tryz.func53, Tryz.ntmps53
  go_wp2_with fail
  go_cut [4] (fun s4 wx => ∃ k : Nat, s4 = .int .i64 (k : Int) ∧ (st.kids p)[k]? = some i ∧ Below w.heap.size w wx)
  case first =>
    go_region_with ((go_at_call 102; refine (HFind.out _ ?_).mono ?_; (repeat (first | exact Below.refl _ _ | refine Below.drew ?_)); rintro e w' ⟨k, rfl, hk, hb⟩; have HB := hide hb; clear hb))
    all_goals go_wp2_with fail
    all_goals go_meet
    all_goals exact ⟨k, rfl, hk, HB.out⟩
  case rest =>
    obtain ⟨k, rfl, hk, hb⟩ := hcut
    have hkn : k < n + 1 := by
      have := (List.getElem?_eq_some_iff.1 hk).1
      omega
    have i1' := (hb.cell (p := ⟨ib, 1, none⟩) il).trans i1
    have p2' := (hb.cell (p := ⟨pb, 2, none⟩) pl).trans p2
    have hwrap : IntKind.i64.wrap ((k : Int) + 1) = (k : Int) + 1 := by rw [IntKind.wrap_i64]; omega
    have HDel := hide (HD.out k hkn)
    rw [← hwrap] at HDel
    have HMd := hide (HMid.out k hk)
    have HFg := hide (HForget.out k hk)
    have HB := hide hb
    have hk12 : (k : Int) < 1000 := by omega
    clear hb HFind hk i1 p2 HD HMid HForget hwrap
    go_wp2_with fail
    go_cut [] (fun wx => Hid (DMid w wx S st G blk p pb g n cap mp k))
    case first =>
      go_region_with ((go_at_call 103; refine (HDel.out _ ?_).mono ?_; (repeat (first | exact HB.out | refine Below.drew ?_)); rintro e w' ⟨rfl, hd⟩; obtain ⟨m0, m1, m2, m3⟩ := HMd.out _ _ (by repeat (first | exact HB.out | refine Below.drew ?_)) hd; have HM := hide m3; clear m3 hd))
      all_goals go_wp2_with fail
      all_goals go_meet
      all_goals exact HM.out
    case rest =>
      have HFF := hide (HFg.out _ hcut.out)
      clear HFg hcut HDel HMd HB i1' p2'
      go_wp2_with (go_at_call 104; refine HFF.out.mono ?_; rintro e w' ⟨rfl, r1⟩; have HR := hide r1; clear r1)
      exact bodyPost_end (v := .tuple #[]) (by simp [results, Tryz.results53]) rfl ⟨rfl, HR.out⟩

end Go.Proofs.YtlaflopimpnjpaaGreat

/-! PanO -/
namespace Go.Proofs.YtlaflopimpnjpaaGreat
open Go.RowKit
attribute [local go_sem ↓] Go.wp_at_zero Go.wp_at_succ

set_option maxRecDepth 100000 in
set_option maxHeartbeats 1000000 in
/-- (*Screen).Destroy -/
theorem paDestroy_any {S : Nat → Prop} {x : Nat} {st : St} (hw : Wf st) (id : Int) (w : World) (h : PaneOk w S x st) :
    Calls Tryz.prog 24 #[.pointer (some ⟨x, 0, none⟩), .int .i64 id] w (PPost S x (opDestroy st id) w) := by
  have hB := isB_iff hw id
  have HE6 := hide (PPost.same (er := 6) h (Below.refl _ _))
  obtain ⟨bv, sc, mp, blk, G, h⟩ := h
  obtain ⟨x0, x1, xl⟩ := h.scrCells
  unfold opDestroy
  obtain ⟨t, ht⟩ : ∃ t, st.isB id = t := ⟨_, rfl⟩
  rw [ht] at hB ⊢
  cases t with
  | false =>
    rw [if_neg (by simp)]
    have HS := hide (scSurface_no h id (isB_no hw ht))
    clear hB h
    go_enter Tryz.func24, Tryz.ntmps24
    go_wp2_with (go_at_call 52; refine HS.out.mono ?_; rintro e w' ⟨rfl, hw'⟩; replace hw' := hw'.symm; subst hw')
    go_ret
    exact HE6.out
  | true =>
    rw [if_pos rfl]
    obtain ⟨i, rfl, hio⟩ := hB.1 rfl
    rw [Int.toNat_natCast]
    have HS := hide (scSurface_ok h i hio)
    have HD := hide (scDestroy_any hw h i hio)
    obtain ⟨g, hg⟩ : ∃ g, blk i = g := ⟨_, rfl⟩
    rw [hg] at HS HD
    clear h hB hg HE6
    go_enter Tryz.func24, Tryz.ntmps24
    go_wp2_with (first
      | (go_at_call 52; refine HS.out.mono ?_; rintro e w' ⟨rfl, hw'⟩; replace hw' := hw'.symm; subst hw')
      | (go_at_call 53; refine HD.out.mono ?_; rintro e w' ⟨rfl, r1⟩; have HR := hide r1; clear r1))
    go_ret
    exact ⟨rfl, HR.out⟩

/-- The surfaces in another order. -/
def reord (st : St) (o : List Nat) : St := { st with order := o }

/-- What lies on one surface is put in another order. -/
theorem PRaw.turn {w w' : World} {S : Nat → Prop} {x : Nat} {st : St} {bv : Value} {sc mp : Nat} {blk : Int → Nat} {G : Int → Nat → Value} (h : PRaw w S x st bv sc mp blk G) {o : List Nat} (ho : o.Perm st.order) {p : Int} (hp : Live st p) (hk : ∀ q, q ≠ p → (reord st o).kids q = st.kids q) {v : Value}
    (hpar : SrfB w' (blk p) (upO (G p) 2 v))
    (hrow : RowS w' S 111 1 v ((reord st o).kids p).length (((reord st o).kids p).map fun (j : Nat) => ptrV (blk j)))
    (hvb : v.ownBlock = (G p 2).ownBlock)
    (hoth : ∀ g, g < w.heap.size → g ≠ blk p → some g ≠ (G p 2).ownBlock → w'.heap[g]? = w.heap[g]?) :
    PRaw w' S x (reord st o) bv sc mp blk (upG G p (upO (G p) 2 v)) := by
  have hL : ∀ q, Live (reord st o) q → Live st q := fun q hq => by
    rcases hq with rfl | ⟨j, rfl, hj⟩
    · exact live_top st
    · exact live_nat (ho.mem_iff.1 hj)
  have hlt : ∀ {g : Nat} {o : Obj}, w.heap[g]? = some o → g < w.heap.size := fun {g o} hg => (Array.getElem?_eq_some_iff.1 hg).1
  obtain ⟨pc, hpc, hpcs⟩ := h.srf p hp
  have rowT : ∀ g, some g = (G p 2).ownBlock → ∃ cur, w.heap[g]? = some (.cells cur 111 (0, 0)) := fun g hg => (h.on p hp).type hg.symm
  have hown : ∀ q, (upG G p (upO (G p) 2 v) q 2).ownBlock = (G q 2).ownBlock := fun q => by
    unfold upG
    by_cases e : q = p
    · subst e
      rw [if_pos rfl]
      show v.ownBlock = _
      exact hvb
    · rw [if_neg e]
  refine ⟨?_, ?_, ?_, fun q hq => ?_, ⟨h.own.1, h.own.2.1, h.own.2.2.1, fun q hq => h.own.2.2.2 q (hL q hq)⟩, fun q q' hq hq' e => h.inj q q' (hL q hq) (hL q' hq') e, fun q hq => ?_, fun q q' hq hq' hne g hg => ?_, fun q hq => ?_⟩
  · refine (hoth x (hlt h.scr) (neT h.scr hpc (by decide)) fun e => ?_).trans h.scr
    obtain ⟨c, hc⟩ := rowT x e
    exact neT h.scr hc (by decide) rfl
  · refine (hoth sc (hlt h.sce) (neT h.sce hpc (by decide)) fun e => ?_).trans h.sce
    obtain ⟨c, hc⟩ := rowT sc e
    exact neT h.sce hc (by decide) rfl
  · refine (h.map.keep (hoth mp h.map.lt (fun e => h.map.ne hpc e.symm) fun e => ?_)).congr ho.symm fun _ _ => rfl
    obtain ⟨c, hc⟩ := rowT mp e
    exact h.map.ne hc rfl
  · unfold upG
    by_cases e : q = p
    · subst e; rw [if_pos rfl]; exact hpar
    · rw [if_neg e]
      obtain ⟨c, hc, hc2⟩ := h.srf q (hL q hq)
      refine ⟨c, (hoth _ (hlt hc) (fun e2 => e (h.inj q p (hL q hq) hp e2)) fun e2 => ?_).trans hc, hc2⟩
      obtain ⟨c2, hc2⟩ := rowT _ e2
      exact neT hc hc2 (by decide) rfl
  · by_cases e : q = p
    · subst e
      unfold upG
      rw [if_pos rfl]
      exact hrow
    · unfold upG
      rw [if_neg e, hk q e]
      have hr := h.on q (hL q hq)
      refine ⟨own_keep hr.1 fun g hg => ?_, hr.2⟩
      obtain ⟨c, hc⟩ := hr.type hg
      exact hoth g (hlt hc) (neT hc hpc (by decide)) fun e2 => h.apart q p (hL q hq) hp e g hg e2.symm
  · rw [hown] at hg ⊢
    exact h.apart q q' (hL q hq) (hL q' hq') hne g hg
  · have hc3 : PCells blk (reord st o) q (G q) := (h.cells q (hL q hq)).other rfl rfl fun _ => rfl
    unfold upG
    by_cases e : q = p
    · rw [if_pos e]
      subst e
      exact ⟨hc3.num, hc3.par, ⟨hc3.now.w, hc3.now.h, hc3.now.pix, hc3.now.x, hc3.now.y, hc3.now.c0, hc3.now.c1, hc3.now.c2, hc3.now.c3, hc3.now.cut⟩, (by obtain ⟨l, h1, h2⟩ := hc3.next; exact ⟨l, ⟨h1.w, h1.h, h1.pix, h1.x, h1.y, h1.c0, h1.c1, h1.c2, h1.c3, h1.cut⟩, h2⟩), hc3.stk⟩
    · rw [if_neg e]
      exact hc3

theorem reord_kids {st : St} {i s : Nat} (ab : Bool) (hp : (st.sf s).parent = (st.sf i).parent) (q : Int) : (reord st (rsL st.order i s ab)).kids q = if (st.sf i).parent = q then rsL (st.kids q) i s ab else st.kids q := by
  unfold St.kids
  show (rsL st.order i s ab).filter _ = _
  have e : (fun j => decide (((reord st (rsL st.order i s ab)).sf j).parent = q)) = fun j => decide ((st.sf j).parent = q) := rfl
  rw [e, rsL_filter _ _ _ _ (by rw [hp])]
  by_cases h : (st.sf i).parent = q
  · rw [if_pos (by simpa using h), if_pos h]
  · rw [if_neg (by simpa using h), if_neg h]

end Go.Proofs.YtlaflopimpnjpaaGreat

/-! PanP -/
namespace Go.Proofs.YtlaflopimpnjpaaGreat
open Go.RowKit
attribute [local go_sem ↓] Go.wp_at_zero Go.wp_at_succ

theorem insert_any (g n cap t b : Nat) (u : Value) (cur : Array Value) (w : World) (hg : w.heap[g]? = some (.cells cur 111 (0, 0))) (hb : w.heap[b]? = some (.cells #[u] 111 (0, 0))) (hgb : g ≠ b) (hcs : cur.size = cap) (hcap : cap ≤ maxLen) (hn : n + 1 ≤ cap) (ht : t ≤ n) (hp : ∀ u ∈ cur.toList.take n, u.oneCell' = true) (hu : u.oneCell' = true) :
    Calls Tryz.prog 125 #[.slice (some ⟨g, 0, none⟩) n cap, .int .i64 (t : Int), .slice (some ⟨b, 0, none⟩) 1 1] w fun e w' => e = .returned (.slice (some ⟨g, 0, none⟩) (n + 1) cap) ∧
      (∃ cur' : Array Value, w'.heap[g]? = some (.cells cur' 111 (0, 0)) ∧ cur'.size = cap ∧ cur'.toList.take (n + 1) = (cur.toList.take n).take t ++ u :: (cur.toList.take n).drop t) ∧ w.grownBy w' (some g) ∧ w'.heap.size = w.heap.size := by
  by_cases e : t = n
  · subst e
    have h := insert_end g t cap b u cur w hg hb hcs hn hu
    rw [List.take_take, Nat.min_self, List.drop_eq_nil_of_le (by simp; omega)]
    exact h
  · rw [List.take_take, Nat.min_eq_left ht]
    exact insert_mid g n cap t b u cur w hg hb hgb hcs hcap hn (by omega) hp hu

set_option maxRecDepth 100000 in
set_option maxHeartbeats 1000000 in
/-- (*Surface).restack: the sibling is gone. -/
theorem restack_out {w : World} {S : Nat → Prop} {x : Nat} {st : St} (hw : Wf st) {bv : Value} {sc mp : Nat} {blk : Int → Nat} {G : Int → Nat → Value} (h : PRaw w S x st bv sc mp blk G) (i s : Nat) (hi : i ∈ st.order) (hs : s ∉ st.order) (ab : Bool) :
    Calls Tryz.prog 105 #[.pointer (some ⟨blk i, 0, none⟩), .int .i64 (s : Int), .bool ab] w fun e w' => e = .returned (.tuple #[]) ∧ Below w.heap.size w w' := by
  obtain ⟨p, hpe⟩ : ∃ p, (st.sf i).parent = p := ⟨_, rfl⟩
  have hp : Live st p := by rw [← hpe]; exact live_par hw hi
  obtain ⟨ic, _, il⟩ := h.at (live_nat hi)
  obtain ⟨pc, pf, pl⟩ := h.at hp
  have i1 := ic 1 (by omega)
  rw [(h.cells i (live_nat hi)).nat.par, hpe] at i1
  unfold ptrV at i1
  have T0 : Hid (Calls Tryz.prog 102 #[.pointer (some ⟨blk p, 0, none⟩), .int .i64 (s : Int)] w fun e w' => e = .returned (.int .i64 (-1)) ∧ Below w.heap.size w w') := by
    refine (find_any (st.kids p) (fun (j : Nat) => blk j) (s : Int) (G p 2) (blk p) w (pc 2 (by omega)) pl (h.ptrs hp) (by have := kids_len hw p; omega)).mono ?_
    rintro e w' ⟨r, rfl, hr, hb⟩
    rcases hr with ⟨rfl, _⟩ | ⟨k, j, _, h2, h3⟩
    · exact ⟨rfl, hb⟩
    · have : j = s := by omega
      subst this
      exact absurd (kids_mem.1 (List.mem_of_getElem? h2)).1 hs
  clear h ic pc pf hw
  obtain ⟨ib, hib⟩ : ∃ ib, blk i = ib := ⟨_, rfl⟩
  rw [hib] at i1 ⊢
  go_enter Tryz.func105, Tryz.ntmps105
  go_wp2_with (go_at_call 102; refine T0.out.mono ?_; rintro e w' ⟨rfl, hb⟩; have HB := hide hb; clear hb)
  exact bodyPost_ret (v := .tuple #[]) (by simp [results, Tryz.results105]) rfl ⟨rfl, HB.out⟩

end Go.Proofs.YtlaflopimpnjpaaGreat
