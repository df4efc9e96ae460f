import Derived.Test.YtofinpocigbbeaaGreatKay
import Derived.Test.YtofinpocigbbeaaGreatKbd
namespace Go.Proofs.YtofinpocigbbeaaGreat
open Go.RowKit
attribute [local go_sem ↓] Go.wp_at_zero Go.wp_at_succ

/-- Behind the Delete: the row has one less. -/
structure DMid (w wx : World) (S : Nat → Prop) (st : St) (G : Int → Nat → Value) (blk : Int → Nat) (p : Int) (pb g n cap mp k : Nat) : Prop where
  map : wx.heap[mp]? = w.heap[mp]?
  srf : SrfB wx pb (upO (G p) 2 (.slice (some ⟨g, 0, none⟩) n cap))
  row : RowS wx S 117 1 (.slice (some ⟨g, 0, none⟩) n cap) n (((st.kids p).eraseIdx k).map fun (j : Nat) => ptrV (blk j))
  oth : ∀ b, b < w.heap.size → b ≠ pb → b ≠ g → wx.heap[b]? = w.heap[b]?
  only : Only S w wx

/-- The screen's memory, with its scene named. -/
def PaneS (w : World) (S : Nat → Prop) (x : Nat) (st : St) (bv : Value) (sc : Nat) : Prop := ∃ mp blk G, PRaw w S x st bv sc mp blk G
theorem PaneS.mono {w : World} {S S' : Nat → Prop} {x : Nat} {st : St} {bv : Value} {sc : Nat} (h : PaneS w S x st bv sc) (hS : ∀ g, S g → S' g) : PaneS w S' x st bv sc := by
  obtain ⟨mp, blk, G, h⟩ := h
  exact ⟨mp, blk, G, h.mono hS⟩
theorem PaneS.ok {w : World} {S : Nat → Prop} {x : Nat} {st : St} {bv : Value} {sc : Nat} (h : PaneS w S x st bv sc) : PaneOk w S x st bv := by
  obtain ⟨mp, blk, G, h⟩ := h
  exact ⟨sc, mp, blk, G, h⟩

set_option maxRecDepth 100000 in
set_option maxHeartbeats 1000000 in
/-- (*Scene).Destroy -/
theorem scDestroy_any {wi : World} {S : Nat → Prop} {x : Nat} {st : St} (hw : Wf st) {bv : Value} {sc mp : Nat} {blk : Int → Nat} {G : Int → Nat → Value} (hraw : PRaw wi S x st bv sc mp blk G) (hSl : ∀ g, S g → g < wi.heap.size) (i : Nat) (hi : i ∈ st.order) :
    Calls Tryz.prog 66 #[.pointer (some ⟨sc, 0, none⟩), .pointer (some ⟨blk i, 0, none⟩)] wi fun e w' => ∃ v, e = .returned v ∧ OwnR w' wi.heap.size v ((st.visAll i).map st.seen) ∧ PaneS w' (grow S wi w') x (rm st i) bv sc ∧ Only S wi w' := by
  have HSP := hide (seenParts_any hw (live_nat hi) (hraw.lays hw (live_nat hi)) (hraw.sl hw (live_nat hi)))
  have HRaw := hide hraw
  obtain ⟨ib, hib⟩ : ∃ ib, blk i = ib := ⟨_, rfl⟩
  have HIB := hide hib
  rw [hib] at HSP ⊢
  clear hraw hib
  go_enter Tryz.func66, Tryz.ntmps66
  go_upto_region 2 with (go_at_call 106; refine HSP.out.mono ?_; rintro e w ⟨v0, rfl, hv0, hb0⟩; obtain ⟨va, vc, hvf⟩ := hv0.form; obtain ⟨vn, hvn⟩ : ∃ n, ((st.visAll i).map st.seen).length = n := ⟨_, rfl⟩; rw [hvn] at hvf; subst hvf; have HV0 := hide (And.intro hv0 hb0); clear hv0 hvn)
  have h := HRaw.out.below HV0.out.2
  have hib := HIB.out
  obtain ⟨p, hpe⟩ : ∃ p, (st.sf i).parent = p := ⟨_, rfl⟩
  have hp : Live st p := by rw [← hpe]; exact live_par hw hi
  have hik : i ∈ st.kids p := kids_mem.2 ⟨hi, hpe⟩
  obtain ⟨g, n, cap, cur, r1, r2, r3, r4, r5, r6, r7, r8⟩ := h.rowAt hp (List.ne_nil_of_mem hik)
  have hk12n := kids_len hw p
  rw [r2] at hk12n
  obtain ⟨ic, _, il⟩ := h.at (live_nat hi)
  obtain ⟨pc, pf, pl⟩ := h.at hp
  have q := (h.cells i (live_nat hi)).nat
  have i0 := ic 0 (by omega)
  have i1 := ic 1 (by omega)
  rw [q.num] at i0
  rw [q.par, hpe] at i1
  have p2 := pc 2 (by omega)
  rw [r1] at p2
  have f2 := pf 2
  have HFind : Hid (∀ W : World, Below w.heap.size w W → Calls Tryz.prog 111 #[.pointer (some ⟨blk p, 0, none⟩), .int .i64 (i : Int)] W fun e w' => ∃ k : Nat, e = .returned (.int .i64 (k : Int)) ∧ (st.kids p)[k]? = some i ∧ Below w.heap.size w w') := fun W hW => by
    refine (find_any (st.kids p) (fun (j : Nat) => blk j) (i : Int) (G p 2) (blk p) W ?_ (Nat.lt_of_lt_of_le pl hW.size) ((h.ptrs hp).below hW) (by have := kids_len hw p; omega)).mono ?_
    · rw [hW.cell (p := ⟨blk p, 2, none⟩) pl, pc 2 (by omega)]
    · rintro e w' ⟨r, rfl, hr, hb⟩
      obtain ⟨k, rfl, hk⟩ := idx_is hik hr
      exact ⟨k, rfl, hk, hW.trans (hb.mono hW.size)⟩
  obtain ⟨pcur, hpcur, hpcs⟩ := h.srf p hp
  have hpg : blk p ≠ g := neT hpcur r3 (by decide)
  obtain ⟨icur, hicur, _⟩ := h.srf i (live_nat hi)
  have hig : blk i ≠ g := neT hicur r3 (by decide)
  have hmpg : mp ≠ g := fun e => h.map.ne r3 e.symm
  have hmpp : mp ≠ blk p := fun e => h.map.ne hpcur e.symm
  have hgl : g < w.heap.size := (Array.getElem?_eq_some_iff.1 r3).1
  have HD : Hid (∀ k, k < n + 1 → ∀ W : World, Below w.heap.size w W → Calls Tryz.prog 112 #[.slice (some ⟨g, 0, none⟩) (n + 1) cap, .int .i64 (k : Int), .int .i64 ((k : Int) + 1)] W fun e w' => e = .returned (.slice (some ⟨g, 0, none⟩) n cap) ∧ (∃ cur' : Array Value, w'.heap[g]? = some (.cells cur' 117 (0, 0)) ∧ cur'.size = cap ∧ cur'.toList.take n = (cur.toList.take (n + 1)).eraseIdx k) ∧ W.grownBy w' (some g) ∧ w'.heap.size = W.heap.size) := fun k hk W hW => by
    refine delete_any g n cap k cur W ((hW.block g hgl).trans r3) r4 r5 r6 hk fun u hu => ?_
    rw [r7] at hu
    obtain ⟨j, _, rfl⟩ := List.mem_map.1 hu
    rfl
  have HMid : Hid (∀ k, (st.kids p)[k]? = some i → ∀ W W' : World, Below w.heap.size w W → ((∃ cur' : Array Value, W'.heap[g]? = some (.cells cur' 117 (0, 0)) ∧ cur'.size = cap ∧ cur'.toList.take n = (cur.toList.take (n + 1)).eraseIdx k) ∧ W.grownBy W' (some g) ∧ W'.heap.size = W.heap.size) →
      W'.cell? ⟨blk i, 1, none⟩ = some (.pointer (some ⟨blk p, 0, none⟩)) ∧ W'.cell? ⟨blk p, 2, none⟩ = some (.slice (some ⟨g, 0, none⟩) (n + 1) cap) ∧ W'.frozen? ⟨blk p, 2, none⟩ = false ∧ DMid w (W'.setCell ⟨blk p, 2, none⟩ (.slice (some ⟨g, 0, none⟩) n cap)) S st G blk p (blk p) g n cap mp k) := fun k hk W W' hW ⟨⟨cur', c1, c2, c3⟩, g1, s1⟩ => by
    have hWo : ∀ b, b < w.heap.size → b ≠ g → W'.heap[b]? = w.heap[b]? := fun b hb hne => by
      rw [g1.block b (Nat.lt_of_lt_of_le hb hW.size) (fun e => hne (by injection e)), hW.block b hb]
    have hs : SrfB w (blk p) (G p) := h.srf p hp
    have hset : ∀ b, b ≠ blk p → (W'.setCell ⟨blk p, 2, none⟩ (.slice (some ⟨g, 0, none⟩) n cap)).heap[b]? = W'.heap[b]? := fun b hne => heap_setCell_other W' ⟨blk p, 2, none⟩ b _ hne
    refine ⟨?_, ?_, ?_, ?_, ?_, ?_, fun b hb h1 h2 => ?_, ?_⟩
    · rw [World.cell?_of_block (w := w) (a := ⟨blk i, 1, none⟩) (hWo _ il hig), i1]
      rfl
    · rw [World.cell?_of_block (w := w) (a := ⟨blk p, 2, none⟩) (hWo _ pl hpg), p2]
    · rw [World.frozen?_of_block (w := w) (a := ⟨blk p, 2, none⟩) (hWo _ pl hpg)]
      exact f2
    · rw [hset mp hmpp, hWo mp h.map.lt hmpg]
    · exact (hs.keep (hWo _ pl hpg)).set 2 _
    · refine ⟨⟨?_, .inr ⟨g, cap, cur', rfl, Nat.zero_le _, (hset g (fun e => hpg e.symm)).trans c1, by omega, r5, by rw [c2, Nat.mul_one], ?_⟩⟩, fun b hb => ?_⟩
      · rw [List.length_map, List.length_eraseIdx, if_pos (List.getElem?_eq_some_iff.1 hk).1]
        omega
      · rw [Nat.mul_one, c3, r7]
        exact (ChangeMaps.map_eraseIdx _ _ _).symm
      · simp [Value.ownBlock] at hb
        subst hb
        exact r8
    · rw [hset b h1, hWo b hb h2]
    · refine Only.set ((Only.below hW).grown g1 fun b e => .inl ?_) (.inl (h.own.2.2.2 p hp)) _
      injection e with e
      rw [← e]
      exact r8
  have HForget : Hid (∀ k, (st.kids p)[k]? = some i → ∀ wx : World, DMid w wx S st G blk p (blk p) g n cap mp k → Calls Tryz.prog 113 #[.pointer (some ⟨sc, 0, none⟩), .pointer (some ⟨blk i, 0, none⟩)] wx fun e w' => e = .returned (.tuple #[]) ∧ PaneS w' (grow S w w') x (rm st i) bv sc ∧ Only S w w') := fun k hk wx D => by
    have hscp : sc ≠ blk p := neT h.sce hpcur (by decide)
    have hscg : sc ≠ g := neT h.sce r3 (by decide)
    have hscl := (Array.getElem?_eq_some_iff.1 h.sce).1
    have hscm : sc ≠ mp := h.map.ne h.sce
    have hpi : (i : Int) ≠ p := fun e => by
      have := hw.par i
      rw [hpe] at this
      omega
    have hsub : ∀ j ∈ i :: st.dfs i, j ∈ st.order ∧ (j : Int) ≠ p := fun j hj => by
      have h1 := gone_mem.1 ((gone_perm hw i hi).mem_iff.1 hj)
      refine ⟨h1.1, fun e => ?_⟩
      have h2 := chain_le hw.par (j + 1) j (by omega) i h1.2
      have h3 := hw.par i
      rw [hpe] at h3
      omega
    have hFT : ∀ j ∈ i :: st.dfs i, FT wx st blk mp j ∧ j ∈ st.order := fun j hj => by
      obtain ⟨hjo, hjp⟩ := hsub j hj
      have hlj := live_nat hjo
      obtain ⟨jc, _, jl⟩ := h.at hlj
      obtain ⟨jcur, hjcur, _⟩ := h.srf j hlj
      have e1 : wx.heap[blk j]? = w.heap[blk j]? := D.oth _ jl (fun e => hjp (h.inj j p hlj hp e)) (neT hjcur r3 (by decide))
      have hjl2 : blk j < wx.heap.size := Nat.lt_of_lt_of_le jl D.only.size
      refine ⟨⟨?_, hjl2, fun e => h.map.ne hjcur e, ?_⟩, hjo⟩
      · rw [World.cell?_of_block (w := w) (a := ⟨blk j, 0, none⟩) e1, jc 0 (by omega), (h.cells j hlj).num]
      · obtain ⟨⟨a, c, ha, hcs⟩, _⟩ := h.ptrs hlj
        refine ⟨a, c, ?_, fun m hm => ?_⟩
        · rw [World.cell?_of_block (w := w) (a := ⟨blk j, 2, none⟩) e1, jc 2 (by omega), ha]
        · obtain ⟨b, rfl, b2, b3⟩ := hcs m hm
          have hob : (G j 2).ownBlock = some b := by rw [ha]; rfl
          obtain ⟨bc, hbc⟩ := (h.on j hlj).type hob
          have hbg : b ≠ g := fun e => h.apart j p hlj hp hjp b hob (by rw [r1, e]; rfl)
          have e2 : wx.heap[b]? = w.heap[b]? := D.oth _ b2 (neT hbc hpcur (by decide)) hbg
          exact ⟨b, rfl, Nat.lt_of_lt_of_le b2 D.only.size, h.map.ne hbc, by rw [World.cell?_of_block (w := w) (a := ⟨b, m, none⟩) e2]; exact b3⟩
    refine (forget_any hw hscm (st.need i) i st.order wx hi (Nat.le_refl _) hw.nd hFT (h.map.keep D.map) ?_).mono ?_
    · rw [World.cell?_of_block (w := w) (a := ⟨sc, 1, none⟩) (D.oth sc hscl hscp hscg)]
      exact h.sceCells.2.1
    · rintro e w' ⟨rfl, m', g', s'⟩
      rw [rm_order hw hi] at m'
      have hk2 : ∀ b, b ≠ mp → b < wx.heap.size → w'.heap[b]? = wx.heap[b]? := fun b hne hb => g'.block b hb (fun e => hne (by injection e))
      have hkl : n = (st.kids p).length - 1 := by omega
      refine ⟨rfl, PaneS.mono ⟨mp, blk, _, h.less hw hi hpe hk m' (D.srf.keep (hk2 _ (fun e => hmpp e.symm) (Nat.lt_of_lt_of_le pl D.only.size))) ?_ (by rw [r1]; rfl) fun b hb h1 h2 h3 => ?_⟩ (fun _ hg => grow_self hg), D.only.grown g' fun b e => .inl ?_⟩
      · have hr := D.row
        rw [← hkl]
        exact ⟨own_keep hr.1 fun b hb => hk2 b (fun e => by
          simp [Value.ownBlock] at hb
          exact hmpg (by rw [← e, hb])) (hr.1.lt b hb).2, hr.2⟩
      · rw [hk2 b h1 (Nat.lt_of_lt_of_le hb D.only.size)]
        exact D.oth b hb h2 (fun e => h3 (by rw [r1, e]; rfl))
      · injection e with e
        rw [← e]
        exact h.own.2.2.1
  have HFin : Hid (∀ w' : World, PaneS w' (grow S w w') x (rm st i) bv sc ∧ Only S w w' → ∃ v, Ending.returned (.slice va vn vc) = .returned v ∧ OwnR w' wi.heap.size v ((st.visAll i).map st.seen) ∧ PaneS w' (grow S wi w') x (rm st i) bv sc ∧ Only S wi w') := fun w' ⟨q1, q2⟩ => by
    obtain ⟨hv0, hb0⟩ := HV0.out
    refine ⟨_, rfl, ⟨own_keep hv0.1 fun g hg => q2.block g (hv0.1.lt g hg).2 fun hs => ?_, hv0.2⟩, q1.mono fun g hg => ?_, (Only.below hb0).trans (q2.mono fun g _ hg => .inl hg)⟩
    · have h1 := hSl g hs
      have h2 := (hv0.1.lt g hg).1
      omega
    · rcases hg with hg | ⟨h1, h2⟩
      · exact .inl hg
      · exact .inr ⟨Nat.le_trans hb0.size h1, h2⟩
  unfold ptrV at i1
  obtain ⟨pb, hpb⟩ : ∃ pb, blk p = pb := ⟨_, rfl⟩
  rw [hpb] at HFind i1 p2 f2 pl HMid HForget
  rw [hib] at i0 i1 il HForget HMid
  clear h q ic pc pf r1 r3 r7 hpcur hpcs hpg hmpg hmpp hpb hib hicur hig HRaw HSP hb0
  go_cut [6] (fun s6 wx => ∃ k : Nat, s6 = .int .i64 (k : Int) ∧ (st.kids p)[k]? = some i ∧ Below w.heap.size w wx)
  case first =>
    go_region_with ((go_at_call 111; refine (HFind.out _ ?_).mono ?_; (repeat (first | exact Below.refl _ _ | refine Below.drew ?_)); rintro e w' ⟨k, rfl, hk, hb⟩; have HB := hide hb; clear hb))
    all_goals go_wp2_with fail
    all_goals go_meet
    all_goals exact ⟨k, rfl, hk, HB.out⟩
  case rest =>
    obtain ⟨k, rfl, hk, hb⟩ := hcut
    have hkn : k < n + 1 := by
      have := (List.getElem?_eq_some_iff.1 hk).1
      omega
    have i1' := (hb.cell (p := ⟨ib, 1, none⟩) il).trans i1
    have p2' := (hb.cell (p := ⟨pb, 2, none⟩) pl).trans p2
    have hwrap : IntKind.i64.wrap ((k : Int) + 1) = (k : Int) + 1 := by rw [IntKind.wrap_i64]; omega
    have HDel := hide (HD.out k hkn)
    rw [← hwrap] at HDel
    have HMd := hide (HMid.out k hk)
    have HFg := hide (HForget.out k hk)
    have HB := hide hb
    have hk12 : (k : Int) < 1000 := by omega
    clear hb HFind hk i1 p2 HD HMid HForget hwrap
    go_wp2_with fail
    go_cut [] (fun wx => Hid (DMid w wx S st G blk p pb g n cap mp k))
    case first =>
      go_region_with ((go_at_call 112; refine (HDel.out _ ?_).mono ?_; (repeat (first | exact HB.out | refine Below.drew ?_)); rintro e w' ⟨rfl, hd⟩; obtain ⟨m0, m1, m2, m3⟩ := HMd.out _ _ (by repeat (first | exact HB.out | refine Below.drew ?_)) hd; have HM := hide m3; clear m3 hd))
      all_goals go_wp2_with fail
      all_goals go_meet
      all_goals exact HM.out
    case rest =>
      have HFF := hide (HFg.out _ hcut.out)
      clear HFg hcut HDel HMd HB i1' p2'
      go_wp2_with (go_at_call 113; refine HFF.out.mono ?_; rintro e w' ⟨rfl, r1⟩; have HR := hide r1; clear r1)
      go_ret
      exact HFin.out _ HR.out

end Go.Proofs.YtofinpocigbbeaaGreat
