import Derived.Test.YtofinpocigbbeaaGreatKzp
import Derived.Test.YtofinpocigbbeaaGreatKbx
import Derived.Test.YtofinpocigbbeaaGreatKap
namespace Go.Proofs.YtofinpocigbbeaaGreat
open Go.RowKit

/-! ### Two screens beside one another -/

/-- What the picture is, pixel by pixel. -/
def picPx (st : St) : List R4 := pxL (fun k => (st.picU ((k % 8 : Nat) : Int) ((k / 8 : Nat) : Int) (st.visAll (-1))).1) 56

theorem Run.full {w wr : World} {S : Nat → Prop} {vb n m o : Nat} {st : St} {d : Cv} {ids : List Int} (h : Run w wr S vb n m o st d ids) {i : Nat} (hi : i < d.bufs.length) (ha : d.bufs[i].age = 1) (hs : ∀ x y, d.stale 1 x y = false) : pxL d.bufs[i].f 56 = picPx st := by
  unfold picPx pxL
  refine List.map_congr_left fun k hk => ?_
  have hk2 := List.mem_range.1 hk
  have := h.inv d.bufs[i] (List.getElem_mem hi) k (by rw [h.W, h.H]; exact hk2) (by rw [ha]; exact hs _ _)
  rw [h.W] at this
  exact this

structure Two (w wr : World) (Sa Sb : Nat → Prop) (va na ma oa : Nat) (sta : St) (da : Cv) (ida : List Int) (vb nb mb ob : Nat) (stb : St) (db : Cv) (idb : List Int) : Prop where
  a : Run w wr Sa va na ma oa sta da ida
  b : Run w wr Sb vb nb mb ob stb db idb
  ap : ∀ g, Sa g → ¬ Sb g

theorem Two.swap {w wr : World} {Sa Sb : Nat → Prop} {va na ma oa : Nat} {sta : St} {da : Cv} {ida : List Int} {vb nb mb ob : Nat} {stb : St} {db : Cv} {idb : List Int} (h : Two w wr Sa Sb va na ma oa sta da ida vb nb mb ob stb db idb) : Two w wr Sb Sa vb nb mb ob stb db idb va na ma oa sta da ida :=
  ⟨h.b, h.a, fun g hb ha => h.ap g ha hb⟩

theorem Two.below {w wr V : World} {Sa Sb : Nat → Prop} {va na ma oa : Nat} {sta : St} {da : Cv} {ida : List Int} {vb nb mb ob : Nat} {stb : St} {db : Cv} {idb : List Int} (h : Two w wr Sa Sb va na ma oa sta da ida vb nb mb ob stb db idb) (hV : Below wr.heap.size wr V) : Two w V Sa Sb va na ma oa sta da ida vb nb mb ob stb db idb :=
  ⟨h.a.below hV, h.b.below hV, h.ap⟩

theorem Run.base {w w1 wr : World} {S : Nat → Prop} {vb n m o : Nat} {st : St} {d : Cv} {ids : List Int} (h : Run w1 wr S vb n m o st d ids) (hb : Below w.heap.size w w1) : Run w wr S vb n m o st d ids :=
  ⟨h.fine, h.kept, h.alv, fun g hg => ⟨Nat.le_trans hb.size (h.lo g hg).1, (h.lo g hg).2⟩, h.inv, h.W, h.H, h.len, h.old, h.cnt, h.told, hb.trans (h.bel.mono hb.size)⟩

/-- Two screens are begun. -/
theorem two_start {w w1 w2 : World} {va vb na nb : Nat} {da db : Cv} (ha : AlvOk w1 (fun g => w.heap.size ≤ g ∧ g < w1.heap.size) va bg5 da []) (hda : BgD na da) (hba : Below w.heap.size w w1) (hb : AlvOk w2 (fun g => w1.heap.size ≤ g ∧ g < w2.heap.size) vb bg5 db []) (hdb : BgD nb db) (hbb : Below w1.heap.size w1 w2) :
    Two w w2 (fun g => w.heap.size ≤ g ∧ g < w1.heap.size) (fun g => w1.heap.size ≤ g ∧ g < w2.heap.size) va na 0 2 bg5 da [] vb nb 0 2 bg5 db [] :=
  ⟨(run_start ha hda hba).below hbb, (run_start hb hdb hbb).base hba, fun g h1 h2 => by omega⟩

theorem grow_ap {Sa Sb : Nat → Prop} {wr w' : World} (h : ∀ g, Sa g → ¬ Sb g) (hl : ∀ g, Sb g → g < wr.heap.size) : ∀ g, grow Sa wr w' g → ¬ Sb g := fun g hg hb => hg.elim (fun q => h g q hb) fun q => by have := hl g hb; omega

/-- The first one does a step. -/
theorem Two.does {w wr : World} {Sa Sb : Nat → Prop} {va na ma oa : Nat} {sta : St} {da : Cv} {ida : List Int} {vb nb mb ob : Nat} {stb : St} {db : Cv} {idb : List Int} (h : Two w wr Sa Sb va na ma oa sta da ida vb nb mb ob stb db idb) (hm : ma ≤ 100000) (t : StepD) (ht : StepOk t) :
    Calls Tryz.prog 13 #[.pointer (some ⟨va, 0, none⟩), .agg t.cells] wr fun e w' => e = .returned (.tuple #[]) ∧ ∃ Sa' da', DamTo da da' (stepM sta ida t).2.2 ∧ Two w w' Sa' Sb va na (ma + 1) oa (stepM sta ida t).1 da' (stepM sta ida t).2.1 vb nb mb ob stb db idb := by
  refine (h.a.step hm t ht).mono ?_
  rintro e w' ⟨rfl, ⟨da', hd, hr⟩, ho⟩
  exact ⟨rfl, _, da', hd, hr, h.b.other ho (fun g hg => (h.a.lo g hg).1) (fun g hb ha => h.ap g ha hb), grow_ap h.ap fun g hg => (h.b.lo g hg).2⟩

/-- A Repaint of the first one. -/
theorem Two.paint {w wr : World} {Sa Sb A : Nat → Prop} {va na ma oa x : Nat} {lv : Value} {sta : St} {da : Cv} {ida : List Int} {vb nb mb ob : Nat} {stb : St} {db : Cv} {idb : List Int} (h : Two w wr Sa Sb va na ma oa sta da ida vb nb mb ob stb db idb) (ha : AlvX wr Sa A va x lv sta da ida) (ho62 : oa ≤ 4611686018427387904) (i : Nat) (hi : i < na) :
    Calls Tryz.prog 14 #[.pointer (some ⟨x, 0, none⟩), .int .i64 i] wr fun e w' => ∃ (ra : Option Addr) (rn rq : Nat) (z : Int) (hi : i < da.bufs.length) (O : Rgn), e = .returned (.tuple #[.agg #[.slice ra rn rq, .int .i64 z], .int .i64 0]) ∧ rn = (rc O).length ∧ z = laidL (fun x y => (sta.picL (sta.visAll (-1)) x y).2) (rc O) (rc O).length ∧ Good O ∧ (∀ x y, memR O x y = da.stale da.bufs[i].age x y) ∧
      ∃ Sa' da' A', Two w w' Sa' Sb va na ma (oa + 1) sta da' ida vb nb mb ob stb db idb ∧ AlvX w' Sa' A' va x lv sta da' ida ∧ (∃ h : i < da'.bufs.length, da'.bufs[i].age = 1) ∧ ∀ x y, da'.stale 1 x y = false := by
  refine (h.a.repaint ha ho62 i hi).mono ?_
  rintro e w' ⟨hi', rv, O, d', rfl, hG, hm, hr, rfl, hR, ho, A', hA⟩
  obtain ⟨ra, rq, hrf⟩ := hr.form
  subst hrf
  obtain ⟨p1, p2, _, p4⟩ := painted_now h.a.alv.ok hi' (paintL da.W (rc O) (fun x y => (sta.picL (sta.visAll (-1)) x y).1) da.bufs[i].f)
  exact ⟨ra, _, rq, _, hi', O, rfl, rfl, rfl, hG, hm, _, _, A', ⟨hR, h.b.other ho (fun g hg => (h.a.lo g hg).1) (fun g hb ha => h.ap g ha hb), grow_ap h.ap fun g hg => (h.b.lo g hg).2⟩, hA, ⟨p1, p2⟩, p4⟩

/-- Garbage. -/
theorem Run.garbage {w wr : World} {S A : Nat → Prop} {vb x n m o : Nat} {lv : Value} {st : St} {d : Cv} {ids : List Int} (h : Run w wr S vb n m o st d ids) (ha : AlvX wr S A vb x lv st d ids) (i : Nat) (hi : i < n) (l : List R4) (v : Value) (hv : PixAt wr v l) (hl : l.length = 56) :
    Calls Tryz.prog 16 #[.pointer (some ⟨x, 0, none⟩), .int .i64 i, v] wr fun e w' => e = .returned (.int .i64 0) ∧ ∃ d' A', Run w w' (grow S wr w') vb n m o st d' ids ∧ AlvX w' (grow S wr w') A' vb x lv st d' ids ∧ Only S wr w' := by
  have hil : i < d.bufs.length := by rw [h.len]; exact hi
  refine (fuGarbage_any i hil l v wr ha.scr hv (by rw [h.W, h.H]; exact hl)).mono ?_
  rintro e w' ⟨rfl, ⟨g, hc⟩, hon⟩
  have hA := ha.turned hc hon
  have h1 := h.bel.size
  refine ⟨rfl, _, _, ⟨h.fine, h.kept, hA.1, grow_lo h.lo h1 hon.size, CvInv.fill h.alv.ok h.inv i g _, h.W, h.H, ?_, h.old, h.cnt, h.told, Below.onlyS h.bel hA.2 (fun g hg => (h.lo g hg).1) h1⟩, ha.call hc hon, hA.2⟩
  show (d.bufs.set i _).length = n
  rw [List.length_set, h.len]

theorem Two.garbage {w wr : World} {Sa Sb A : Nat → Prop} {va na ma oa x : Nat} {lv : Value} {sta : St} {da : Cv} {ida : List Int} {vb nb mb ob : Nat} {stb : St} {db : Cv} {idb : List Int} (h : Two w wr Sa Sb va na ma oa sta da ida vb nb mb ob stb db idb) (ha : AlvX wr Sa A va x lv sta da ida) (i : Nat) (hi : i < na) (l : List R4) (v : Value) (hv : PixAt wr v l) (hl : l.length = 56) :
    Calls Tryz.prog 16 #[.pointer (some ⟨x, 0, none⟩), .int .i64 i, v] wr fun e w' => e = .returned (.int .i64 0) ∧ ∃ Sa' da' A', Two w w' Sa' Sb va na ma oa sta da' ida vb nb mb ob stb db idb ∧ AlvX w' Sa' A' va x lv sta da' ida := by
  refine (h.a.garbage ha i hi l v hv hl).mono ?_
  rintro e w' ⟨rfl, d', A', hR, hA, ho⟩
  exact ⟨rfl, _, d', A', ⟨hR, h.b.other ho (fun g hg => (h.a.lo g hg).1) (fun g hb ha => h.ap g ha hb), grow_ap h.ap fun g hg => (h.b.lo g hg).2⟩, hA⟩

end Go.Proofs.YtofinpocigbbeaaGreat

namespace Go.Proofs.YtofinpocigbbeaaGreat
open Go.RowKit

/-! ### The same surfaces with no hints -/

def Look.noH (l : Look) : Look := { l with hint := fun _ _ => false }
def Sf.noH (s : Sf) : Sf := { s with now := s.now.noH, next := s.next.noH, kept := fun _ => false }
def St.noH (st : St) : St := { st with sfs := st.sfs.map Sf.noH }

theorem noH_sf (st : St) (i : Nat) : st.noH.sf i = (st.sf i).noH := by
  unfold St.sf St.noH
  simp only [List.getD_eq_getElem?_getD, List.getElem?_map]
  cases st.sfs[i]? <;> rfl

theorem noH_len (st : St) : st.noH.sfs.length = st.sfs.length := by unfold St.noH; simp

theorem noH_isB (st : St) (id : Int) : st.noH.isB id = st.isB id := by
  unfold St.isB
  rw [noH_len, noH_sf]
  rfl

theorem noH_pic (st : St) : PicS st st.noH :=
  ⟨rfl, rfl, rfl, noH_len st, fun i => by rw [noH_sf]; rfl, fun i => by rw [noH_sf]; exact ⟨rfl, rfl, rfl, rfl, rfl, rfl⟩, fun i => by rw [noH_sf]; rfl⟩

theorem St.eq_of {a b : St} (h1 : a.w = b.w) (h2 : a.h = b.h) (h3 : a.order = b.order) (h4 : ∀ j : Nat, a.sfs[j]? = b.sfs[j]?) : a = b := by
  obtain ⟨aw, ah, sa, ao⟩ := a
  obtain ⟨bw, bh, sb, bo⟩ := b
  simp only at h1 h2 h3 h4
  have : sa = sb := List.ext_getElem? h4
  subst h1 h2 h3 this
  rfl

theorem noH_upd (st : St) (i : Nat) {g : Sf → Sf} (h : ∀ s, (g s).noH = g s.noH) : (upd st i g).noH = upd st.noH i g := by
  refine St.eq_of rfl rfl rfl fun j => ?_
  show ((st.sfs.modify i g).map Sf.noH)[j]? = ((st.sfs.map Sf.noH).modify i g)[j]?
  simp only [List.getElem?_map, List.getElem?_modify]
  cases st.sfs[j]? with
  | none => simp
  | some s =>
    by_cases e : i = j
    · simp [e, h]
    · simp [e]

theorem noH_gone (st : St) (i : Nat) {g : Sf → Sf} (h : ∀ s, (g s).noH = s.noH) : (upd st i g).noH = st.noH := by
  refine St.eq_of rfl rfl rfl fun j => ?_
  show ((st.sfs.modify i g).map Sf.noH)[j]? = (st.sfs.map Sf.noH)[j]?
  simp only [List.getElem?_map, List.getElem?_modify]
  cases st.sfs[j]? with
  | none => simp
  | some s =>
    by_cases e : i = j
    · simp [e, h]
    · simp [e]

theorem noH_mk (st : St) (p : Int) : (mk st p).noH = mk st.noH p := by
  refine St.eq_of rfl rfl ?_ fun j => ?_
  · show st.order ++ [st.sfs.length] = st.order ++ [st.noH.sfs.length]
    rw [noH_len]
  · show ((st.sfs ++ [newSf p]).map Sf.noH)[j]? = ((st.sfs.map Sf.noH) ++ [newSf p])[j]?
    rw [List.map_append]
    rfl

theorem noH_rm (st : St) (i : Nat) : (rm st i).noH = rm st.noH i := by
  have hc := fun j => (noH_pic st).chain j
  refine St.eq_of rfl rfl ?_ fun j => ?_
  · show st.order.filter _ = st.order.filter _
    exact List.filter_congr fun o _ => by rw [hc]
  · have hg : st.noH.gone i = st.gone i := by
      unfold St.gone
      show st.order.filter _ = st.order.filter _
      exact List.filter_congr fun o _ => by rw [hc]
    show ((st.sfs.mapIdx fun j s => if (st.gone i).contains j = true then { s with alive := false } else s).map Sf.noH)[j]? = ((st.sfs.map Sf.noH).mapIdx fun j s => if (st.noH.gone i).contains j = true then { s with alive := false } else s)[j]?
    rw [hg]
    simp only [List.getElem?_map, List.getElem?_mapIdx]
    cases st.sfs[j]? with
    | none => rfl
    | some s =>
      simp only [Option.map_some]
      split <;> rfl

theorem cmSf_noH (s : Sf) : (cmSf s).noH = cmSf s.noH := by
  unfold cmSf Sf.noH
  simp only [Sf.mk.injEq, true_and]
  funext k
  rfl

theorem noH_cm (st : St) (i : Nat) : (cm st i).noH = cm st.noH i := by
  have hp : st.noH.puts i = st.puts i := by
    unfold St.puts
    rw [noH_sf, noH_isB]
    rfl
  have e1 := noH_upd st i cmSf_noH
  refine St.eq_of rfl rfl ?_ fun j => ?_
  · show (if st.puts i = true then _ else st.order) = (if st.noH.puts i = true then _ else st.order)
    rw [hp, noH_sf]
    rfl
  · have := congrArg (fun s => s.sfs[j]?) e1
    exact this

theorem noH_dam (st : St) (i : Nat) : st.noH.cmDam i = st.cmDam i := by
  have hq := noH_pic (cm st i)
  have hp := noH_pic st
  have hm : st.noH.moved i = st.moved i := by
    unfold St.moved St.pos
    rw [← noH_cm, noH_sf, noH_sf]
    rw [show ((cm st i).sf i).noH.parent = ((cm st i).sf i).parent from rfl, show (st.sf i).noH.parent = (st.sf i).parent from rfl, hq.kids, hp.kids]
    rfl
  unfold St.cmDam
  rw [hm, ← noH_cm, hp.visAll, hq.visAll, hq.seen]
  have e1 : ∀ L : List Nat, L.map st.noH.seen = L.map st.seen := fun L => List.map_congr_left fun j _ => hp.seen j
  have e2 : ∀ L : List Nat, L.map (cm st i).noH.seen = L.map (cm st i).seen := fun L => List.map_congr_left fun j _ => hq.seen j
  have e3 : (cm st i).noH.otherAt i (st.noH.sf i).now.pix = (cm st i).otherAt i (st.sf i).now.pix := by
    funext x y
    unfold St.otherAt
    rw [hq.ixAt, hq.pix, hp.pix]
  rw [e1, e2, e3]

/-! #### The calls -/

theorem noH_make (st : St) (p : Int) : opMake st.noH p = ((opMake st p).1, (opMake st p).2.1, (opMake st p).2.2.noH) := by
  unfold opMake
  rw [noH_isB, noH_len, show st.noH.order = st.order from rfl]
  split
  · split
    · rw [noH_mk]
    · rfl
  · rfl

theorem noH_commit (st : St) (id : Int) : opCommit st.noH id = ((opCommit st id).1, (opCommit st id).2.noH) ∧ st.noH.dmCommit id = st.dmCommit id := by
  unfold opCommit St.dmCommit
  rw [noH_isB]
  split
  · rw [noH_cm, noH_dam]; exact ⟨rfl, rfl⟩
  · exact ⟨rfl, rfl⟩

theorem noH_destroy (st : St) (id : Int) : opDestroy st.noH id = ((opDestroy st id).1, (opDestroy st id).2.noH) ∧ st.noH.dmDestroy id = st.dmDestroy id := by
  have hp := noH_pic st
  unfold opDestroy St.dmDestroy
  rw [noH_isB]
  split
  · rw [noH_rm, hp.visAll, List.map_congr_left fun j _ => hp.seen j]; exact ⟨rfl, rfl⟩
  · exact ⟨rfl, rfl⟩

theorem noH_offset (st : St) (id x y : Int) : opOffset st.noH id x y = ((opOffset st id x y).1, (opOffset st id x y).2.noH) := by
  unfold opOffset
  rw [noH_isB]
  split
  · split
    · exact Prod.ext rfl (noH_upd st _ (g := sfOff x y) fun _ => rfl).symm
    · rfl
  · rfl

theorem noH_att (st : St) (id w h raw : Int) : attM st.noH id w h raw = (attM st id w h raw).noH := by
  unfold attM opAttach
  rw [noH_isB]
  split
  · split
    · split
      · exact (noH_upd st _ (g := sfBuf w h fun k => (imgL raw (w * h).toNat).getD k (0, 0, 0, 0)) fun _ => rfl).symm
      · rfl
    · rfl
  · rfl

theorem noH_clip (st : St) (id : Int) (r : R4) (ok : Bool) : (opClip st.noH id r ok).2 = (opClip st id r ok).2.noH := by
  unfold opClip
  rw [noH_isB]
  split
  · split
    · exact (noH_upd st _ (g := sfClip r) fun _ => rfl).symm
    · rfl
  · rfl

theorem noH_unclip (st : St) (id : Int) : (opUnclip st.noH id).2 = (opUnclip st id).2.noH := by
  unfold opUnclip
  rw [noH_isB]
  split
  · exact (noH_upd st _ (g := sfUnclip) fun _ => rfl).symm
  · rfl

theorem noH_stack (st : St) (id s : Int) (b : Bool) : (opStack st.noH id s b).2 = (opStack st id s b).2.noH := by
  unfold opStack
  rw [noH_isB, noH_isB, noH_sf, noH_sf, show (st.sf id.toNat).noH.parent = (st.sf id.toNat).parent from rfl, show (st.sf s.toNat).noH.parent = (st.sf s.toNat).parent from rfl]
  split
  · split
    · exact (noH_upd st _ (g := sfStack s b) fun _ => rfl).symm
    · rfl
  · rfl

theorem noH_hint (st : St) (id : Int) (n : Nat) (ok : Bool) (f : Int → Int → Bool) : (opOpaque st id n ok f).2.noH = st.noH := by
  unfold opOpaque
  split
  · split
    · rfl
    · split
      · exact noH_gone st _ fun _ => rfl
      · rfl
  · rfl

theorem noH_made (st : St) (n : Int) (t : StepD) : madeM st.noH n t = (madeM st n t).noH := by
  unfold madeM
  rw [noH_att, noH_offset]

theorem noH_makeM (st : St) (ids : List Int) (p : Int) (t : StepD) : makeM st.noH ids p t = ((makeM st ids p t).1.noH, (makeM st ids p t).2) := by
  unfold makeM
  rw [noH_make]
  simp only
  split
  · rw [noH_made, (noH_commit _ _).1, (noH_commit _ _).2]
  · rfl

theorem noH_stays (st : St) (ids : List Int) : st.noH.stays ids = st.stays ids := by
  unfold St.stays
  exact List.filter_congr fun i _ => noH_isB st i

/-- A step that is no hint. -/
theorem noH_step (st : St) (ids : List Int) (t : StepD) (h : ¬ (kindM ids t = 9 ∨ kindM ids t = 10)) : stepM st.noH ids t = ((stepM st ids t).1.noH, (stepM st ids t).2) := by
  unfold stepM
  split
  · exact noH_makeM _ _ _ _
  · split
    · rw [(noH_destroy _ _).1, (noH_destroy _ _).2, noH_stays]
    · split
      · rw [noH_att]
      · split
        · rw [noH_offset]
        · split
          · rw [noH_clip]
          · split
            · rw [noH_unclip]
            · split
              · rw [noH_stack]
              · rw [(noH_commit _ _).1, (noH_commit _ _).2]

/-- A hint. -/
theorem noH_skip (st : St) (ids : List Int) (t : StepD) (h : kindM ids t = 9 ∨ kindM ids t = 10) : (stepM st ids t).1.noH = st.noH ∧ (stepM st ids t).2.1 = ids ∧ (stepM st ids t).2.2 = none := by
  unfold stepM
  rw [if_neg (by omega), if_neg (by omega), if_neg (by omega), if_neg (by omega), if_neg (by omega), if_neg (by omega), if_pos h]
  exact ⟨noH_hint _ _ _ _ _, rfl, rfl⟩

/-! #### The picture -/

theorem noH_pics (st : St) (x y : Int) : st.noH.picU x y (st.noH.visAll (-1)) = st.picU x y (st.visAll (-1)) := (noH_pic st).pic x y

theorem noH_unh (st : St) (L : List Nat) (x y : Int) : st.noH.unh L x y = L := by
  have h : ∀ i, st.noH.hidesAt x y i = false := fun i => by
    unfold St.hidesAt
    rw [noH_sf st i]
    show (_ && false) = false
    simp
  have hc : ∀ k, cutAt (st.noH.hidesAt x y) L k = 0 := by
    intro k
    induction k with
    | zero => rfl
    | succ k ih => unfold cutAt; rw [if_neg (by rw [h]; simp), ih]
  unfold St.unh
  rw [hc]
  rfl

/-- With hints no more is laid. -/
theorem noH_less (st : St) (x y : Int) : (st.picL (st.visAll (-1)) x y).2 ≤ (st.noH.picL (st.noH.visAll (-1)) x y).2 := by
  have h := picL_snd st (st.visAll (-1)) x y
  rw [show st.noH.picL (st.noH.visAll (-1)) x y = st.noH.picU x y (st.noH.visAll (-1)) by unfold St.picL; rw [noH_unh], noH_pics]
  exact h

end Go.Proofs.YtofinpocigbbeaaGreat

namespace Go.Proofs.YtofinpocigbbeaaGreat
open Go.RowKit

/-! ### How many points a region has, and how many pixels are laid in it -/

theorem sumTo_succ (f : Nat → Int) (m : Nat) : sumTo f (m + 1) = sumTo f m + f m := rfl

theorem sumTo_congr {f g : Nat → Int} : ∀ m, (∀ i, i < m → f i = g i) → sumTo f m = sumTo g m
  | 0, _ => rfl
  | m + 1, h => by
    unfold sumTo
    rw [sumTo_congr m fun i hi => h i (by omega), h m (by omega)]

theorem sumTo_add (f g : Nat → Int) : ∀ m, sumTo (fun i => f i + g i) m = sumTo f m + sumTo g m
  | 0 => rfl
  | m + 1 => by
    unfold sumTo
    rw [sumTo_add f g m]
    omega

theorem sumTo_zero : ∀ m, sumTo (fun _ => 0) m = 0
  | 0 => rfl
  | m + 1 => by
    unfold sumTo
    rw [sumTo_zero m]
    rfl

theorem sumTo_split (f : Nat → Int) (a : Nat) : ∀ b, sumTo f (a + b) = sumTo f a + sumTo (fun i => f (a + i)) b
  | 0 => by simp [sumTo]
  | b + 1 => by
    rw [show a + (b + 1) = (a + b) + 1 from rfl, sumTo_succ, sumTo_succ, sumTo_split f a b]
    omega

theorem sumTo_le {f g : Nat → Int} : ∀ m, (∀ i, i < m → f i ≤ g i) → sumTo f m ≤ sumTo g m
  | 0, _ => Int.le_refl _
  | m + 1, h => by
    have h1 := sumTo_le m fun i hi => h i (by omega)
    have h2 := h m (by omega)
    unfold sumTo
    omega

theorem sumTo_win (h : Nat → Int) (a b n : Nat) (hab : a ≤ b) (hb : b ≤ n) : sumTo (fun i => if a ≤ i ∧ i < b then h i else 0) n = sumTo (fun i => h (a + i)) (b - a) := by
  obtain ⟨c, rfl⟩ : ∃ c, b = a + c := ⟨b - a, by omega⟩
  obtain ⟨e, rfl⟩ : ∃ e, n = a + (c + e) := ⟨n - (a + c), by omega⟩
  rw [sumTo_split, sumTo_split, show a + c - a = c by omega]
  have z1 : sumTo (fun i => if a ≤ i ∧ i < a + c then h i else 0) a = 0 := by
    rw [sumTo_congr (g := fun _ => 0) a fun i hi => if_neg (by omega)]
    exact sumTo_zero a
  have z2 : sumTo (fun i => if a ≤ a + (c + i) ∧ a + (c + i) < a + c then h (a + (c + i)) else 0) e = 0 := by
    rw [sumTo_congr (g := fun _ => 0) e fun i hi => if_neg (by omega)]
    exact sumTo_zero e
  have z3 : sumTo (fun i => if a ≤ a + i ∧ a + i < a + c then h (a + i) else 0) c = sumTo (fun i => h (a + i)) c := sumTo_congr c fun i hi => if_pos (by omega)
  rw [z1, z2, z3]
  omega

theorem sumTo_rows (g : Nat → Nat → Int) (W : Nat) (hW : 0 < W) : ∀ H, sumTo (fun k => g (k % W) (k / W)) (W * H) = sumTo (fun y => sumTo (fun x => g x y) W) H
  | 0 => rfl
  | H + 1 => by
    rw [Nat.mul_succ, sumTo_split, sumTo_rows g W hW H]
    rw [sumTo_succ]
    congr 1
    refine sumTo_congr W fun i hi => ?_
    rw [Nat.mul_add_mod, Nat.mod_eq_of_lt hi, Nat.mul_add_div hW, Nat.div_eq_of_lt hi, Nat.add_zero]

theorem laidR_all (laid : Nat → Nat → Int) {W H : Nat} (hW : 0 < W) {r : R4} (h : OnScr W H r) : laidR laid r = sumTo (fun k => if inR r ((k % W : Nat) : Int) ((k / W : Nat) : Int) = true then laid (k % W) (k / W) else 0) (W * H) := by
  obtain ⟨x0, y0, x1, y1, rfl, h1, h2, h3, h4⟩ := h.nats
  rw [sumTo_rows (fun x y => if inR ((x0 : Int), (y0 : Int), (x1 : Int), (y1 : Int)) (x : Int) (y : Int) = true then laid x y else 0) W hW H]
  unfold laidR laidIn
  simp only [Int.toNat_natCast]
  rw [← sumTo_win (fun y => sumTo (fun i => laid (x0 + i) y) (x1 - x0)) y0 y1 H h3 h4]
  refine sumTo_congr H fun y hy => ?_
  split
  · rw [← sumTo_win (fun x => laid x y) x0 x1 W h1 h2]
    refine sumTo_congr W fun x hx => ?_
    unfold inR
    by_cases e : x0 ≤ x ∧ x < x1
    · rw [if_pos e, if_pos (decide_eq_true (by simp only; omega))]
    · rw [if_neg e, if_neg (by simp only [decide_eq_true_eq]; omega)]
  · rename_i hn
    rw [sumTo_congr (g := fun _ => 0) W fun x hx => ?_, sumTo_zero]
    unfold inR
    rw [if_neg (by simp only [decide_eq_true_eq]; omega)]

def cntP (l : List R4) (x y : Int) : Int := ((l.filter fun r => inR r x y).length : Int)

theorem laidL_cnt (laid : Nat → Nat → Int) {W H : Nat} (hW : 0 < W) (l : List R4) (hon : ∀ r ∈ l, OnScr W H r) : ∀ m, m ≤ l.length → laidL laid l m = sumTo (fun k => cntP (l.take m) ((k % W : Nat) : Int) ((k / W : Nat) : Int) * laid (k % W) (k / W)) (W * H)
  | 0, _ => by
    unfold laidL cntP
    simp [sumTo]
    exact (sumTo_zero _).symm
  | m + 1, hm => by
    have ih := laidL_cnt laid hW l hon m (by omega)
    have hml : m < l.length := by omega
    unfold laidL at ih ⊢
    rw [sumTo_succ, ih, List.getD_eq_getElem?_getD, List.getElem?_eq_getElem hml]
    simp only [Option.getD_some]
    have e1 := laidR_all laid hW (hon _ (List.getElem_mem hml))
    rw [e1, ← sumTo_add]
    refine sumTo_congr (W * H) fun k _ => ?_
    unfold cntP
    rw [List.take_succ_eq_append_getElem hml, List.filter_append, List.length_append, List.filter_cons]
    split
    · simp [Int.add_mul]
    · simp

theorem cntP_one {l : List R4} {x y : Int} (h : (l.filter fun r => inR r x y).length ≤ 1) : cntP l x y = if hasB l x y = true then 1 else 0 := by
  unfold cntP hasB
  cases ha : l.any fun r => inR r x y with
  | true =>
    rw [if_pos rfl]
    obtain ⟨r, hr, hi⟩ := List.any_eq_true.1 ha
    have : r ∈ l.filter fun r => inR r x y := List.mem_filter.2 ⟨hr, hi⟩
    have := List.length_pos_of_mem this
    omega
  | false =>
    rw [if_neg (by simp)]
    rw [List.any_eq_false] at ha
    have : l.filter (fun r => inR r x y) = [] := List.filter_eq_nil_iff.2 fun r hr => ha r hr
    rw [this]
    rfl

theorem edges_apart : ∀ {S : List (Int × Int)}, (edges S).Pairwise (· < ·) → S.Pairwise fun s t => s.2 < t.1
  | [], _ => List.Pairwise.nil
  | s :: S, h => by
    rw [edges_cons, List.pairwise_cons, List.pairwise_cons] at h
    refine List.pairwise_cons.2 ⟨fun t ht => h.2.1 t.1 ?_, edges_apart h.2.2⟩
    unfold edges
    exact List.mem_flatMap.2 ⟨t, ht, by simp⟩

theorem levels_apart : ∀ {A : Rgn}, (levels A).Pairwise (· ≤ ·) → A.Pairwise fun a b => a.2.1 ≤ b.1
  | [], _ => List.Pairwise.nil
  | a :: A, h => by
    rw [levels_cons, List.pairwise_cons, List.pairwise_cons] at h
    refine List.pairwise_cons.2 ⟨fun t ht => h.2.1 t.1 ?_, levels_apart h.2.2⟩
    unfold levels
    exact List.mem_flatMap.2 ⟨t, ht, by simp⟩

theorem rc_apart {O : Rgn} (hO : Good O) (x y : Int) : (rc O).Pairwise fun a b => ¬ (inR a x y = true ∧ inR b x y = true) := by
  unfold rc
  rw [List.pairwise_flatMap]
  constructor
  · intro b hb
    rw [List.pairwise_map]
    refine (edges_apart (hO.sp b hb).1.rising).imp ?_
    intro s t hst
    unfold inR
    simp only [decide_eq_true_eq]
    omega
  · refine (levels_apart hO.lv).imp ?_
    intro a b hab p hp q hq
    obtain ⟨s, _, rfl⟩ := List.mem_map.1 hp
    obtain ⟨t, _, rfl⟩ := List.mem_map.1 hq
    unfold inR
    simp only [decide_eq_true_eq]
    omega

theorem rc_one {O : Rgn} (hO : Good O) (x y : Int) : ((rc O).filter fun r => inR r x y).length ≤ 1 := by
  have h := (rc_apart hO x y).filter fun r => inR r x y
  have hall : ∀ r ∈ (rc O).filter fun r => inR r x y, inR r x y = true := fun r hr => (List.mem_filter.1 hr).2
  generalize (rc O).filter (fun r => inR r x y) = l at h hall
  match l, h, hall with
  | [], _, _ => simp
  | [a], _, _ => simp
  | a :: b :: l, h, hall =>
    rw [List.pairwise_cons] at h
    exact absurd ⟨hall a (by simp), hall b (by simp)⟩ (h.1 b (by simp))

/-- What is laid, point by point. -/
theorem laidL_all (laid : Nat → Nat → Int) {W H : Nat} (hW : 0 < W) {O : Rgn} (hO : Good O) (hon : ∀ r ∈ rc O, OnScr W H r) : laidL laid (rc O) (rc O).length = sumTo (fun k => if hasB (rc O) ((k % W : Nat) : Int) ((k / W : Nat) : Int) = true then laid (k % W) (k / W) else 0) (W * H) := by
  rw [laidL_cnt laid hW (rc O) hon _ (Nat.le_refl _), List.take_length]
  refine sumTo_congr _ fun k _ => ?_
  rw [cntP_one (rc_one hO _ _)]
  split
  · simp
  · simp

/-- A rectangle's area. -/
def area (r : R4) : Int := (r.2.2.1 - r.1) * (r.2.2.2 - r.2.1)

theorem sumTo_const (c : Int) : ∀ m : Nat, sumTo (fun _ => c) m = m * c
  | 0 => by simp [sumTo]
  | m + 1 => by
    unfold sumTo
    rw [sumTo_const c m]
    have e : ((m + 1 : Nat) : Int) * c = m * c + c := by rw [Int.natCast_add, Int.add_mul]; simp
    omega

theorem area_laid {W H : Nat} {r : R4} (h : OnScr W H r) : laidR (fun _ _ => 1) r = area r := by
  obtain ⟨x0, y0, x1, y1, rfl, h1, h2, h3, h4⟩ := h.nats
  unfold laidR laidIn area
  simp only [Int.toNat_natCast]
  rw [sumTo_congr (g := fun _ => ((x1 - x0 : Nat) : Int)) _ fun j _ => by rw [sumTo_const]; simp]
  rw [sumTo_const, Int.mul_comm, Int.natCast_sub h1, Int.natCast_sub h3]

end Go.Proofs.YtofinpocigbbeaaGreat

namespace Go.Proofs.YtofinpocigbbeaaGreat
open Go.RowKit
attribute [local go_sem ↓] Go.wp_at_zero Go.wp_at_succ

theorem bg5_noH : bg5.noH = bg5 := rfl

def isHint (t : StepD) : Bool := decide (pickI t.k 16 = 9 ∨ pickI t.k 16 = 10)

set_option maxRecDepth 100000 in
set_option maxHeartbeats 1000000 in
/-- hint -/
theorem hint_any (t : StepD) (ht : StepOk t) (w : World) :
    Calls Tryz.prog 22 #[.agg #[.int .i64 t.k, .int .i64 t.a, .int .i64 t.b, .int .i64 t.c, .int .i64 t.d, .bool t.y]] w fun e w' => e = .returned (.bool (isHint t)) ∧ Below w.heap.size w w' := by
  unfold isHint
  obtain ⟨K, hK⟩ : ∃ K, pickI t.k 16 = K := ⟨_, rfl⟩
  have HPk : Hid (∀ V : World, Calls Tryz.prog 15 #[.int .i64 t.k, .int .i64 16] V fun e w' => e = .returned (.int .i64 K) ∧ w' = V) := fun V => by rw [← hK]; exact pick_any t.k 16 V ht.k.1 ht.k.2 (by omega) (by omega)
  rw [hK]
  clear hK ht
  have hb := (Below.refl w.heap.size w).alloc (Nat.le_refl _) (.cells #[.int .i64 t.k, .int .i64 t.a, .int .i64 t.b, .int .i64 t.c, .int .i64 t.d, .bool t.y] 32)
  have HB := hide hb
  clear hb
  by_cases h9 : K = 9
  · subst h9
    go_enter Tryz.func22, Tryz.ntmps22
    go_wp2_with (go_at_call 15; refine (HPk.out _).mono ?_; rintro e w1 ⟨rfl, hw1⟩; replace hw1 := hw1.symm; subst hw1)
    go_ret
    exact ⟨rfl, HB.out⟩
  · by_cases h10 : K = 10
    · subst h10
      go_enter Tryz.func22, Tryz.ntmps22
      go_wp2_with (go_at_call 15; refine (HPk.out _).mono ?_; rintro e w1 ⟨rfl, hw1⟩; replace hw1 := hw1.symm; subst hw1)
      go_ret
      exact ⟨rfl, HB.out⟩
    · have hd : decide (K = 9 ∨ K = 10) = false := decide_eq_false (by omega)
      rw [hd]
      go_enter Tryz.func22, Tryz.ntmps22
      go_wp2_with (go_at_call 15; refine (HPk.out _).mono ?_; rintro e w1 ⟨rfl, hw1⟩; replace hw1 := hw1.symm; subst hw1)
      go_ret
      exact ⟨by simp [h9, h10], HB.out⟩

theorem laidR_le {f g : Nat → Nat → Int} (h : ∀ x y, f x y ≤ g x y) (r : R4) : laidR f r ≤ laidR g r := by
  unfold laidR laidIn
  exact sumTo_le _ fun j _ => sumTo_le _ fun i _ => h _ _

theorem laidL_le {f g : Nat → Nat → Int} (h : ∀ x y, f x y ≤ g x y) (l : List R4) (m : Nat) : laidL f l m ≤ laidL g l m := by
  unfold laidL
  exact sumTo_le _ fun j _ => laidR_le h _

def damB (dm : Option (List R4)) (x y : Int) : Bool := match dm with
  | none => false
  | some l => hasB l x y

/-- Where a fresh buffer is out of date behind a step. -/
theorem dam_stale {d d' : Cv} (hd : CvOk d) (hf : PFresh d) {dm : Option (List R4)} (ht : DamTo d d' dm) : (∃ h : 0 < d'.bufs.length, d'.bufs[0].age = 1) ∧ ∀ x y, d'.stale 1 x y = damB dm x y := by
  obtain ⟨f1, f2, f3⟩ := hf
  obtain ⟨e1, e2, e3, e4, e5⟩ := damTo_same ht
  refine ⟨⟨by rw [e3]; exact f1, by simp only [e3]; exact f2⟩, fun x y => ?_⟩
  cases dm with
  | none =>
    have e : d' = d := ht
    subst e
    exact f3 x y
  | some l =>
    obtain ⟨R, rfl, _, hm⟩ := ht
    have hnw := hd.nw
    have hln := hd.ln
    have h0 := f3 x y
    unfold Cv.stale Cv.back at h0 ⊢
    rw [if_neg (by omega)] at h0 ⊢
    simp at h0 ⊢
    rw [show d.nw % 4 = d.nw by omega] at h0 ⊢
    rw [List.getElem?_set_self (by omega)]
    show memR R x y = hasB l x y
    rw [hm]
    simp [h0]

/-- Behind a step, ahead of the Repaints. -/
def HinJ (w wr : World) (va vb k : Nat) : Prop := ∃ (Sa Sb : Nat → Prop) (st : St) (da db : Cv) (ids : List Int), Two w wr Sa Sb va 1 (k + 1) (2 + k) st da ids vb 1 (k + 1) (2 + k) st.noH db ids ∧ (∃ h : 0 < da.bufs.length, da.bufs[0].age = 1) ∧ (∃ h : 0 < db.bufs.length, db.bufs[0].age = 1) ∧ ∀ x y, da.stale 1 x y = db.stale 1 x y

/-- What is so behind k steps. -/
def HinI (w wr : World) (va vb k : Nat) : Prop := ∃ (Sa Sb : Nat → Prop) (st : St) (da db : Cv) (ids : List Int), Two w wr Sa Sb va 1 k (2 + k) st da ids vb 1 k (2 + k) st.noH db ids ∧ PFresh da ∧ PFresh db

theorem BgD.fresh {n : Nat} {d : Cv} (h : BgD n d) : PFresh d := by
  obtain ⟨h1, h2⟩ := h.age
  refine ⟨h1, h2, fun x y => stale_yes ⟨by omega, by omega⟩ fun k hk => ?_⟩
  have : k = 0 := by omega
  subst this
  rw [h.bk]
  rfl

theorem picPx_noH (st : St) : picPx st.noH = picPx st := by
  unfold picPx
  congr 1
  funext k
  rw [noH_pics]

end Go.Proofs.YtofinpocigbbeaaGreat

namespace Go.Proofs.YtofinpocigbbeaaGreat
open Go.RowKit
attribute [local go_sem ↓] Go.wp_at_zero Go.wp_at_succ

/-- A step on the first one: what is left for the second. -/
theorem hin_a {w wr : World} {va vb k : Nat} {Sa Sb : Nat → Prop} {st : St} {da db : Cv} {ids : List Int} (h : Two w wr Sa Sb va 1 k (2 + k) st da ids vb 1 k (2 + k) st.noH db ids) (fa : PFresh da) (fb : PFresh db) (hk : k ≤ 60) (t : StepD) (ht : StepOk t) :
    Calls Tryz.prog 13 #[.pointer (some ⟨va, 0, none⟩), .agg #[.int .i64 t.k, .int .i64 t.a, .int .i64 t.b, .int .i64 t.c, .int .i64 t.d, .bool t.y]] wr fun e w2 => e = .returned (.tuple #[]) ∧ Below w.heap.size w w2 ∧ ∃ Ab xb la lc, (∀ V : World, Below w2.heap.size w2 V → V.cell? ⟨vb, 1, none⟩ = some (.slice la ids.length lc)) ∧
      (isHint t = true → ids ≠ [] → ∀ V : World, Below w2.heap.size w2 V → HinJ w V va vb k) ∧
      ((isHint t = false ∨ ids = []) → ∀ V : World, Below w2.heap.size w2 V → Calls Tryz.prog 13 #[.pointer (some ⟨vb, 0, none⟩), .agg #[.int .i64 t.k, .int .i64 t.a, .int .i64 t.b, .int .i64 t.c, .int .i64 t.d, .bool t.y]] V fun e w' => e = .returned (.tuple #[]) ∧ HinJ w w' va vb k) ∧ AlvX w2 Sb Ab vb xb (.slice la ids.length lc) st.noH db ids := by
  refine (h.does (by omega) t ht).mono ?_
  rintro e w2 ⟨rfl, Sa', da', hd, h2⟩
  obtain ⟨Ab, xb, lvb, hab⟩ := h2.b.alv
  obtain ⟨la, lc, hlf⟩ := row_form hab.row
  subst hlf
  obtain ⟨a1, a2⟩ := dam_stale h.a.alv.ok fa hd
  refine ⟨rfl, h2.a.bel, Ab, xb, la, lc, fun V hV => (hab.below hV).blk.cell 1, fun hh hne V hV => ?_, fun hh V hV => ?_, hab⟩
  · have hkd : kindM ids t = 9 ∨ kindM ids t = 10 := by
      unfold kindM
      rw [if_neg hne]
      unfold isHint at hh
      exact of_decide_eq_true hh
    obtain ⟨n1, n2, n3⟩ := noH_skip st ids t hkd
    have h3 := h2.below hV
    refine ⟨Sa', Sb, (stepM st ids t).1, da', db, (stepM st ids t).2.1, ⟨h3.a, ?_, h3.ap⟩, a1, ⟨fb.1, fb.2.1⟩, fun x y => ?_⟩
    · rw [n1, n2]
      exact h3.b.cntTo (Nat.le_succ_of_le h3.b.cnt)
    · rw [a2, n3]
      obtain ⟨_, _, f3⟩ := fb
      exact (f3 x y).symm
  · have hkd : ¬ (kindM ids t = 9 ∨ kindM ids t = 10) := by
      unfold kindM
      by_cases hne : ids = []
      · rw [if_pos hne]; omega
      · rw [if_neg hne]
        rcases hh with hh | hh
        · unfold isHint at hh
          exact of_decide_eq_false hh
        · exact absurd hh hne
    have hst := noH_step st ids t hkd
    refine ((h2.below hV).swap.does (by omega) t ht).mono ?_
    rintro e w' ⟨rfl, Sb', db', hd', h4⟩
    obtain ⟨b1, b2⟩ := dam_stale h.b.alv.ok fb hd'
    rw [hst] at h4 b2
    exact ⟨rfl, Sa', Sb', (stepM st ids t).1, da', db', (stepM st ids t).2.1, h4.swap, a1, b1, fun x y => by rw [a2, b2]⟩

theorem Run.oldTo2 {w wr : World} {S : Nat → Prop} {vb n m o o' : Nat} {st : St} {d : Cv} {ids : List Int} (h : Run w wr S vb n m o st d ids) (ho : o ≤ o') : Run w wr S vb n m o' st d ids :=
  ⟨h.fine, h.kept, h.alv, h.lo, h.inv, h.W, h.H, h.len, Nat.le_trans h.old ho, h.cnt, h.told, h.bel⟩

/-- A Repaint of the first one, and what it leaves alone. -/
theorem Two.paintO {w wr : World} {Sa Sb A : Nat → Prop} {va na ma oa x : Nat} {lv : Value} {sta : St} {da : Cv} {ida : List Int} {vb nb mb ob : Nat} {stb : St} {db : Cv} {idb : List Int} (h : Two w wr Sa Sb va na ma oa sta da ida vb nb mb ob stb db idb) (ha : AlvX wr Sa A va x lv sta da ida) (ho62 : oa ≤ 4611686018427387904) (i : Nat) (hi : i < na) :
    Calls Tryz.prog 14 #[.pointer (some ⟨x, 0, none⟩), .int .i64 i] wr fun e w' => ∃ (ra : Option Addr) (rn rq : Nat) (z : Int) (hi : i < da.bufs.length) (O : Rgn), e = .returned (.tuple #[.agg #[.slice ra rn rq, .int .i64 z], .int .i64 0]) ∧ rn = (rc O).length ∧ z = laidL (fun x y => (sta.picL (sta.visAll (-1)) x y).2) (rc O) (rc O).length ∧ Good O ∧ (∀ x y, memR O x y = da.stale da.bufs[i].age x y) ∧ Only Sa wr w' ∧
      ∃ Sa' da', Two w w' Sa' Sb va na ma (oa + 1) sta da' ida vb nb mb ob stb db idb ∧ ∃ h : i < da'.bufs.length, da'.bufs[i].age = 1 ∧ ∀ x y, da'.stale 1 x y = false := by
  refine (h.a.repaint ha ho62 i hi).mono ?_
  rintro e w' ⟨hi', rv, O, d', rfl, hG, hm, hr, rfl, hR, ho, A', hA⟩
  obtain ⟨ra, rq, hrf⟩ := hr.form
  subst hrf
  obtain ⟨p1, p2, _, p4⟩ := painted_now h.a.alv.ok hi' (paintL da.W (rc O) (fun x y => (sta.picL (sta.visAll (-1)) x y).1) da.bufs[i].f)
  exact ⟨ra, _, rq, _, hi', O, rfl, rfl, rfl, hG, hm, ho, _, _, ⟨hR, h.b.other ho (fun g hg => (h.a.lo g hg).1) (fun g hb ha => h.ap g ha hb), grow_ap h.ap fun g hg => (h.b.lo g hg).2⟩, p1, p2, p4⟩

set_option maxRecDepth 100000 in
set_option maxHeartbeats 4000000 in
theorem hinted_walk (D : List StepD) (u : Value) (w : World) (hu : StepsAt w u D) :
    Calls Tryz.prog 9 #[u] w fun e w' => e = .returned (.bool true) ∧ Below w.heap.size w w' := by
  obtain ⟨ua, uc, rfl⟩ := hu.form
  obtain ⟨n, hn⟩ : ∃ n, D.length = n := ⟨_, rfl⟩
  rw [hn] at hu ⊢
  have HU := hide (And.intro hu hn)
  have HB3 := hide (begun_any 1 (by omega) w)
  have HB1 : Hid (∀ V : World, _) := fun V : World => begun_any 1 (by omega) V
  clear hu hn
  go_enter Tryz.func9, Tryz.ntmps9
  go_upto_region 2 with (go_at_call 12; refine HB3.out.mono ?_; rintro e w1 ⟨va, rfl, d1, ha, hd, hb⟩; have HA1 := hide (And.intro ha (And.intro hd hb)); clear ha hd hb HB3)
  go_wp2_with (go_at_call 12; refine (HB1.out _).mono ?_; rintro e w2 ⟨vb, rfl, d2, ha, hd, hb⟩; have HR0 := hide (And.intro (two_start HA1.out.1 HA1.out.2.1 HA1.out.2.2 ha hd hb) (And.intro HA1.out.2.1.fresh hd.fresh)); clear ha hd hb HB1 HA1)
  go_loopg [7] (min n 60) (fun gg s7 wr => ∃ k : Nat, s7 = .int .i64 k ∧ gg + k = min n 60 ∧ Hid (HinI w wr va vb k))
  case atStart => exact ⟨0, rfl, by omega, ⟨_, _, bg5, _, _, _, by rw [bg5_noH]; exact HR0.out.1, HR0.out.2⟩⟩
  case round =>
    rename World => wr
    clear HR0
    obtain ⟨k, rfl, hgk, HI⟩ := hrel
    cases gk with
    | zero =>
      have hex : ¬ (k : Int) < (n : Int) ∨ ((k : Int) < (n : Int) ∧ ¬ (k : Int) < 60) := by omega
      rcases hex with h | ⟨h1, h2⟩
      · go_wp2_with fail
        go_ret
        obtain ⟨_, _, _, _, _, _, q, _⟩ := HI.out
        exact ⟨rfl, q.a.bel⟩
      · go_wp2_with fail
        go_ret
        obtain ⟨_, _, _, _, _, _, q, _⟩ := HI.out
        exact ⟨rfl, q.a.bel⟩
    | succ gk =>
      have h1 : (k : Int) < (n : Int) := by omega
      have h2 : (k : Int) < 60 := by omega
      have hk60 : k ≤ 60 := by omega
      have hk : k < D.length := by have := HU.out.2; omega
      obtain ⟨Sa, Sb, st, da, db, ids, hT, fa, fb⟩ := HI.out
      obtain ⟨hc, b, off, hab, hbl, c0, c1, c2, c3, c4, c5⟩ := HU.out.1.at HU.out.2 hT.a.bel k hk
      subst hab
      obtain ⟨t, ht⟩ : ∃ t, D[k] = t := ⟨_, rfl⟩
      rw [ht] at c0 c1 c2 c3 c4 c5
      have hto := HU.out.1.ok t (ht ▸ List.getElem_mem hk)
      have hkc : k < uc := by omega
      have hk0 : (0 : Int) ≤ (k : Int) := by omega
      have HCl : Hid (∀ V : World, Below w.heap.size w V → V.cell? ⟨b, off + k * 6, none⟩ = some (.int .i64 t.k) ∧ V.cell? ⟨b, off + k * 6 + 1, none⟩ = some (.int .i64 t.a) ∧ V.cell? ⟨b, off + k * 6 + 2, none⟩ = some (.int .i64 t.b) ∧ V.cell? ⟨b, off + k * 6 + 3, none⟩ = some (.int .i64 t.c) ∧ V.cell? ⟨b, off + k * 6 + 4, none⟩ = some (.int .i64 t.d) ∧ V.cell? ⟨b, off + k * 6 + 5, none⟩ = some (.bool t.y)) := fun V hV => by
        have hx := hT.a.bel
        exact ⟨((hV.cell (p := ⟨b, _, none⟩) hbl).trans (hx.cell (p := ⟨b, _, none⟩) hbl).symm).trans c0, ((hV.cell (p := ⟨b, _, none⟩) hbl).trans (hx.cell (p := ⟨b, _, none⟩) hbl).symm).trans c1, ((hV.cell (p := ⟨b, _, none⟩) hbl).trans (hx.cell (p := ⟨b, _, none⟩) hbl).symm).trans c2, ((hV.cell (p := ⟨b, _, none⟩) hbl).trans (hx.cell (p := ⟨b, _, none⟩) hbl).symm).trans c3, ((hV.cell (p := ⟨b, _, none⟩) hbl).trans (hx.cell (p := ⟨b, _, none⟩) hbl).symm).trans c4, ((hV.cell (p := ⟨b, _, none⟩) hbl).trans (hx.cell (p := ⟨b, _, none⟩) hbl).symm).trans c5⟩
      have HD1 := hide (hin_a hT fa fb hk60 t hto)
      have HHt : Hid (∀ V : World, _) := fun V : World => hint_any t hto V
      obtain ⟨q, hq⟩ : ∃ q, ids.length = q := ⟨_, rfl⟩
      have hq0 : ids = [] ↔ q = 0 := by rw [← hq]; exact List.length_eq_zero_iff.symm
      rw [hq] at HD1
      have HQ := hide hq0
      clear hT fa fb ht hc hto HI hq hq0
      go_upto_region 10 with (first
        | (go_at_call 13; refine HD1.out.mono ?_; rintro e w2 ⟨rfl, hb2, Ab, xb, la, lc, hv1, hskip, hdo, hab⟩; have HB2 := hide hb2; have HV1 := hide hv1; have HSk := hide hskip; have HDo := hide hdo; clear c0 c1 c2 c3 c4 c5 hv1 hskip hdo hab; obtain ⟨c0, c1, c2, c3, c4, c5⟩ := HCl.out w2 hb2; clear hb2)
        | (go_at_call 22; refine (HHt.out _).mono ?_; rintro e w3 ⟨rfl, hb3⟩; have HB3 := hide hb3; clear c0 c1 c2 c3 c4 c5 hb3))
      have v1 := HV1.out w3 HB3.out
      obtain ⟨c0, c1, c2, c3, c4, c5⟩ := HCl.out w3 (HB2.out.trans (HB3.out.mono HB2.out.size))
      cases hh : isHint t with
      | false =>
        have HDo2 := hide (HDo.out (.inl hh) w3 HB3.out)
        clear HSk HDo HD1 HHt HV1
        go_upto_region 12 with (go_at_call 13; refine HDo2.out.mono ?_; rintro e w4 ⟨rfl, hJ⟩; have HX := hide hJ; clear hJ)
        obtain ⟨Sx, Sy, sx, dx, dy, idx, hT, ⟨a1, a2⟩, ⟨b1, b2⟩, hs⟩ := HX.out
        obtain ⟨Aa, xa, lva, haa⟩ := hT.a.alv
        have v6 : w4.cell? ⟨va, 0, none⟩ = some (.pointer (some ⟨xa, 0, none⟩)) := haa.blk.cell 0
        have HRa := hide (hT.paintO haa (by omega) 0 (by omega))
        have HLo : Hid (∀ g, Sy g → g < w4.heap.size) := fun g hg => (hT.b.lo g hg).2
        have HAg := hide (And.intro a2 (And.intro b2 hs))
        clear hT haa a2 b2 hs HX c0 c1 c2 c3 c4 c5 v1
        go_upto_region 13 with (go_at_call 14; refine HRa.out.mono ?_; rintro e w5 ⟨ra5, rn5, rq5, z5, hi5, O5, rfl, hrn5, hz5, hG5, hm5, hon5, Sa5, da5, hI5, hF5⟩; have HI5 := hide hI5; have HF5 := hide hF5; have HN5 := hide (And.intro hrn5 (And.intro hz5 (And.intro hG5 (And.intro hm5 hon5.size)))); clear hI5 hF5 hrn5 hz5 hG5 hm5 hon5)
        clear v6 HRa
        obtain ⟨p5, hp5⟩ : ∃ pb, w5.heap.size = pb := ⟨_, rfl⟩
        obtain ⟨W5, hW5⟩ : ∃ W, W = w5.alloc (.cells #[.slice ra5 rn5 rq5, .int .i64 z5] 35) := ⟨_, rfl⟩
        have hb5 : Below w5.heap.size w5 W5 := by rw [hW5]; exact (Below.refl _ _).alloc (Nat.le_refl _) _
        have hpt5 : Blk W5 p5 35 #[.slice ra5 rn5 rq5, .int .i64 z5] := by rw [hW5, ← hp5]; exact heap_alloc_new w5 _
        rw [← hW5, hp5]
        have HI6 := hide (HI5.out.below hb5).swap
        have HPt5 := hide hpt5
        have HS5 : Hid (w4.heap.size ≤ p5) := by have := HN5.out.2.2.2.2; rw [Hid]; omega
        obtain ⟨Ab6, xb6, lvb6, hab6⟩ := HI6.out.a.alv
        have v6 : W5.cell? ⟨vb, 0, none⟩ = some (.pointer (some ⟨xb6, 0, none⟩)) := hab6.blk.cell 0
        have HRb := hide (HI6.out.paintO hab6 (by omega) 0 (by omega))
        clear hb5 hpt5 hW5 hp5 HI5 hab6
        go_upto_region 14 with (go_at_call 14; refine HRb.out.mono ?_; rintro e w6 ⟨ra6, rn6, rq6, z6, hi6, O6, rfl, hrn6, hz6, hG6, hm6, hon6, Sb6, db6, hI6, hF6⟩; have hO : O6 = O5 := (plain_one hG6 HN5.out.2.2.1 (fun x y => (by rw [hm6, HN5.out.2.2.2.1, HAg.out.1, HAg.out.2.1, HAg.out.2.2]))); have hrr : rn6 = rn5 := (by rw [hrn6, hO, HN5.out.1]); have hzz : ¬ z6 < z5 := (by have q := laidL_le (fun x y => noH_less sx x y) (rc O5) (rc O5).length; rw [hz6, hO, HN5.out.2.1]; omega); subst hrr; have HI7 := hide hI6.swap; have HF6 := hide hF6; have HPt6 := hide (HPt5.out.keep (hon6.block _ (block_lt HPt5.out) (fun hg => (by have := HLo.out _ hg; have := HS5.out; omega)))); clear hI6 hF6 hrn6 hz6 hG6 hm6 hon6 hO)
        clear v6 HRb HI6 HPt5
        obtain ⟨p6, hp6⟩ : ∃ pb, w6.heap.size = pb := ⟨_, rfl⟩
        obtain ⟨W6, hW6⟩ : ∃ W, W = w6.alloc (.cells #[.slice ra6 rn6 rq6, .int .i64 z6] 35) := ⟨_, rfl⟩
        have hb6 : Below w6.heap.size w6 W6 := by rw [hW6]; exact (Below.refl _ _).alloc (Nat.le_refl _) _
        have hpt6 : Blk W6 p6 35 #[.slice ra6 rn6 rq6, .int .i64 z6] := by rw [hW6, ← hp6]; exact heap_alloc_new w6 _
        have HPt7 := hide (HPt6.out.keep (hb6.block _ (block_lt HPt6.out)))
        rw [← hW6, hp6]
        have HI8 := hide (HI7.out.below hb6)
        have HPt8 := hide hpt6
        clear hb6 hpt6 hW6 hp6 HI7 HPt6
        have HSm : Hid (∀ (w8 w9 : World) (hi8 : 0 < da5.bufs.length) (hi9 : 0 < db6.bufs.length) (a8 a9 : Option Addr) (q8 q9 : Nat), w8.ownsRow W6.heap.size 51 4 (.slice a8 56 q8) 56 (pixCells (pxL da5.bufs[0].f 56)) → Below W6.heap.size W6 w8 → w9.ownsRow w8.heap.size 51 4 (.slice a9 56 q9) 56 (pixCells (pxL db6.bufs[0].f 56)) → Below w8.heap.size w8 w9 → Calls Tryz.prog 18 #[.slice a8 56 q8, .slice a9 56 q9] w9 fun e w' => e = .returned (.bool true) ∧ Below W6.heap.size W6 w') := fun w8 w9 hi8 hi9 a8 a9 q8 q9 ho8 hb8 ho9 hb9 => by
          obtain ⟨_, f2, f3⟩ := HF5.out
          obtain ⟨_, g2, g3⟩ := HF6.out
          rw [HI8.out.a.full hi8 f2 f3] at ho8
          rw [HI8.out.b.full hi9 g2 g3, picPx_noH] at ho9
          have hl : (picPx sx).length = 56 := pxL_len _ _
          refine (same_yes (picPx sx) _ _ w9 (pixAt_own (own_keep ho8 fun g hg => hb9.block g (ho8.lt g hg).2) hl) (pixAt_own ho9 hl) (by rw [hl]; omega)).mono ?_
          rintro e w' ⟨rfl, hb'⟩
          have h89 := hb8.trans (hb9.mono hb8.size)
          exact ⟨rfl, h89.trans (hb'.mono h89.size)⟩
        go_upto_region 15 with (first
          | (go_at_call_of 19 (Value.pointer (some ⟨va, 0, none⟩)); refine (alook_any HI8.out.a 0 (by omega)).mono ?_; rintro e w8 ⟨hi8, a8, q8, rfl, ho8, hb8⟩; have HO8 := hide (And.intro ho8 hb8); clear ho8 hb8)
          | (go_at_call_of 19 (Value.pointer (some ⟨vb, 0, none⟩)); refine (alook_any (HI8.out.below HO8.out.2).b 0 (by omega)).mono ?_; rintro e w9 ⟨hi9, a9, q9, rfl, ho9, hb9⟩; have HO9 := hide (And.intro ho9 hb9); clear ho9 hb9)
          | (go_at_call 18; refine (HSm.out _ _ hi8 hi9 _ _ _ _ HO8.out.1 HO8.out.2 HO9.out.1 HO9.out.2).mono ?_; rintro e w10 ⟨rfl, hb10⟩; have HI10 := hide (HI8.out.below hb10); have HB10 := hide hb10; clear hb10))
        have k0 : w10.cell? ⟨p5, 0, none⟩ = some (.slice ra5 rn6 rq5) := (HPt7.out.keep (HB10.out.block _ (block_lt HPt7.out))).cell 0
        have k1 : w10.cell? ⟨p5, 1, none⟩ = some (.int .i64 z5) := (HPt7.out.keep (HB10.out.block _ (block_lt HPt7.out))).cell 1
        have l0 : w10.cell? ⟨p6, 0, none⟩ = some (.slice ra6 rn6 rq6) := (HPt8.out.keep (HB10.out.block _ (block_lt HPt8.out))).cell 0
        have l1 : w10.cell? ⟨p6, 1, none⟩ = some (.int .i64 z6) := (HPt8.out.keep (HB10.out.block _ (block_lt HPt8.out))).cell 1
        clear HSm HO8 HO9 HI8 HPt7 HPt8 HB10
        go_wp2_with fail
        go_roundg gk
        case measure => omega
        case rel => exact ⟨k + 1, by go_num, by omega, _, _, _, _, _, _, ⟨HI10.out.a.oldTo2 (by omega), HI10.out.b.oldTo2 (by omega), HI10.out.ap⟩, HF5.out, HF6.out⟩
      | true =>
        by_cases hq : (q : Int) = 0
        · have HDo2 := hide (HDo.out (.inr (HQ.out.2 (by omega))) w3 HB3.out)
          clear HSk HDo HD1 HHt HV1
          go_upto_region 12 with (go_at_call 13; refine HDo2.out.mono ?_; rintro e w4 ⟨rfl, hJ⟩; have HX := hide hJ; clear hJ)
          obtain ⟨Sx, Sy, sx, dx, dy, idx, hT, ⟨a1, a2⟩, ⟨b1, b2⟩, hs⟩ := HX.out
          obtain ⟨Aa, xa, lva, haa⟩ := hT.a.alv
          have v6 : w4.cell? ⟨va, 0, none⟩ = some (.pointer (some ⟨xa, 0, none⟩)) := haa.blk.cell 0
          have HRa := hide (hT.paintO haa (by omega) 0 (by omega))
          have HLo : Hid (∀ g, Sy g → g < w4.heap.size) := fun g hg => (hT.b.lo g hg).2
          have HAg := hide (And.intro a2 (And.intro b2 hs))
          clear hT haa a2 b2 hs HX c0 c1 c2 c3 c4 c5 v1
          go_upto_region 13 with (go_at_call 14; refine HRa.out.mono ?_; rintro e w5 ⟨ra5, rn5, rq5, z5, hi5, O5, rfl, hrn5, hz5, hG5, hm5, hon5, Sa5, da5, hI5, hF5⟩; have HI5 := hide hI5; have HF5 := hide hF5; have HN5 := hide (And.intro hrn5 (And.intro hz5 (And.intro hG5 (And.intro hm5 hon5.size)))); clear hI5 hF5 hrn5 hz5 hG5 hm5 hon5)
          clear v6 HRa
          obtain ⟨p5, hp5⟩ : ∃ pb, w5.heap.size = pb := ⟨_, rfl⟩
          obtain ⟨W5, hW5⟩ : ∃ W, W = w5.alloc (.cells #[.slice ra5 rn5 rq5, .int .i64 z5] 35) := ⟨_, rfl⟩
          have hb5 : Below w5.heap.size w5 W5 := by rw [hW5]; exact (Below.refl _ _).alloc (Nat.le_refl _) _
          have hpt5 : Blk W5 p5 35 #[.slice ra5 rn5 rq5, .int .i64 z5] := by rw [hW5, ← hp5]; exact heap_alloc_new w5 _
          rw [← hW5, hp5]
          have HI6 := hide (HI5.out.below hb5).swap
          have HPt5 := hide hpt5
          have HS5 : Hid (w4.heap.size ≤ p5) := by have := HN5.out.2.2.2.2; rw [Hid]; omega
          obtain ⟨Ab6, xb6, lvb6, hab6⟩ := HI6.out.a.alv
          have v6 : W5.cell? ⟨vb, 0, none⟩ = some (.pointer (some ⟨xb6, 0, none⟩)) := hab6.blk.cell 0
          have HRb := hide (HI6.out.paintO hab6 (by omega) 0 (by omega))
          clear hb5 hpt5 hW5 hp5 HI5 hab6
          go_upto_region 14 with (go_at_call 14; refine HRb.out.mono ?_; rintro e w6 ⟨ra6, rn6, rq6, z6, hi6, O6, rfl, hrn6, hz6, hG6, hm6, hon6, Sb6, db6, hI6, hF6⟩; have hO : O6 = O5 := (plain_one hG6 HN5.out.2.2.1 (fun x y => (by rw [hm6, HN5.out.2.2.2.1, HAg.out.1, HAg.out.2.1, HAg.out.2.2]))); have hrr : rn6 = rn5 := (by rw [hrn6, hO, HN5.out.1]); have hzz : ¬ z6 < z5 := (by have q := laidL_le (fun x y => noH_less sx x y) (rc O5) (rc O5).length; rw [hz6, hO, HN5.out.2.1]; omega); subst hrr; have HI7 := hide hI6.swap; have HF6 := hide hF6; have HPt6 := hide (HPt5.out.keep (hon6.block _ (block_lt HPt5.out) (fun hg => (by have := HLo.out _ hg; have := HS5.out; omega)))); clear hI6 hF6 hrn6 hz6 hG6 hm6 hon6 hO)
          clear v6 HRb HI6 HPt5
          obtain ⟨p6, hp6⟩ : ∃ pb, w6.heap.size = pb := ⟨_, rfl⟩
          obtain ⟨W6, hW6⟩ : ∃ W, W = w6.alloc (.cells #[.slice ra6 rn6 rq6, .int .i64 z6] 35) := ⟨_, rfl⟩
          have hb6 : Below w6.heap.size w6 W6 := by rw [hW6]; exact (Below.refl _ _).alloc (Nat.le_refl _) _
          have hpt6 : Blk W6 p6 35 #[.slice ra6 rn6 rq6, .int .i64 z6] := by rw [hW6, ← hp6]; exact heap_alloc_new w6 _
          have HPt7 := hide (HPt6.out.keep (hb6.block _ (block_lt HPt6.out)))
          rw [← hW6, hp6]
          have HI8 := hide (HI7.out.below hb6)
          have HPt8 := hide hpt6
          clear hb6 hpt6 hW6 hp6 HI7 HPt6
          have HSm : Hid (∀ (w8 w9 : World) (hi8 : 0 < da5.bufs.length) (hi9 : 0 < db6.bufs.length) (a8 a9 : Option Addr) (q8 q9 : Nat), w8.ownsRow W6.heap.size 51 4 (.slice a8 56 q8) 56 (pixCells (pxL da5.bufs[0].f 56)) → Below W6.heap.size W6 w8 → w9.ownsRow w8.heap.size 51 4 (.slice a9 56 q9) 56 (pixCells (pxL db6.bufs[0].f 56)) → Below w8.heap.size w8 w9 → Calls Tryz.prog 18 #[.slice a8 56 q8, .slice a9 56 q9] w9 fun e w' => e = .returned (.bool true) ∧ Below W6.heap.size W6 w') := fun w8 w9 hi8 hi9 a8 a9 q8 q9 ho8 hb8 ho9 hb9 => by
            obtain ⟨_, f2, f3⟩ := HF5.out
            obtain ⟨_, g2, g3⟩ := HF6.out
            rw [HI8.out.a.full hi8 f2 f3] at ho8
            rw [HI8.out.b.full hi9 g2 g3, picPx_noH] at ho9
            have hl : (picPx sx).length = 56 := pxL_len _ _
            refine (same_yes (picPx sx) _ _ w9 (pixAt_own (own_keep ho8 fun g hg => hb9.block g (ho8.lt g hg).2) hl) (pixAt_own ho9 hl) (by rw [hl]; omega)).mono ?_
            rintro e w' ⟨rfl, hb'⟩
            have h89 := hb8.trans (hb9.mono hb8.size)
            exact ⟨rfl, h89.trans (hb'.mono h89.size)⟩
          go_upto_region 15 with (first
            | (go_at_call_of 19 (Value.pointer (some ⟨va, 0, none⟩)); refine (alook_any HI8.out.a 0 (by omega)).mono ?_; rintro e w8 ⟨hi8, a8, q8, rfl, ho8, hb8⟩; have HO8 := hide (And.intro ho8 hb8); clear ho8 hb8)
            | (go_at_call_of 19 (Value.pointer (some ⟨vb, 0, none⟩)); refine (alook_any (HI8.out.below HO8.out.2).b 0 (by omega)).mono ?_; rintro e w9 ⟨hi9, a9, q9, rfl, ho9, hb9⟩; have HO9 := hide (And.intro ho9 hb9); clear ho9 hb9)
            | (go_at_call 18; refine (HSm.out _ _ hi8 hi9 _ _ _ _ HO8.out.1 HO8.out.2 HO9.out.1 HO9.out.2).mono ?_; rintro e w10 ⟨rfl, hb10⟩; have HI10 := hide (HI8.out.below hb10); have HB10 := hide hb10; clear hb10))
          have k0 : w10.cell? ⟨p5, 0, none⟩ = some (.slice ra5 rn6 rq5) := (HPt7.out.keep (HB10.out.block _ (block_lt HPt7.out))).cell 0
          have k1 : w10.cell? ⟨p5, 1, none⟩ = some (.int .i64 z5) := (HPt7.out.keep (HB10.out.block _ (block_lt HPt7.out))).cell 1
          have l0 : w10.cell? ⟨p6, 0, none⟩ = some (.slice ra6 rn6 rq6) := (HPt8.out.keep (HB10.out.block _ (block_lt HPt8.out))).cell 0
          have l1 : w10.cell? ⟨p6, 1, none⟩ = some (.int .i64 z6) := (HPt8.out.keep (HB10.out.block _ (block_lt HPt8.out))).cell 1
          clear HSm HO8 HO9 HI8 HPt7 HPt8 HB10
          go_wp2_with fail
          go_roundg gk
          case measure => omega
          case rel => exact ⟨k + 1, by go_num, by omega, _, _, _, _, _, _, ⟨HI10.out.a.oldTo2 (by omega), HI10.out.b.oldTo2 (by omega), HI10.out.ap⟩, HF5.out, HF6.out⟩
        · have HX := hide (HSk.out hh (fun e => hq (by have := HQ.out.1 e; omega)) w3 HB3.out)
          clear HSk HDo HD1 HHt HV1
          go_upto_region 12 with fail
          obtain ⟨Sx, Sy, sx, dx, dy, idx, hT, ⟨a1, a2⟩, ⟨b1, b2⟩, hs⟩ := HX.out
          obtain ⟨Aa, xa, lva, haa⟩ := hT.a.alv
          have v6 : w3.cell? ⟨va, 0, none⟩ = some (.pointer (some ⟨xa, 0, none⟩)) := haa.blk.cell 0
          have HRa := hide (hT.paintO haa (by omega) 0 (by omega))
          have HLo : Hid (∀ g, Sy g → g < w3.heap.size) := fun g hg => (hT.b.lo g hg).2
          have HAg := hide (And.intro a2 (And.intro b2 hs))
          clear hT haa a2 b2 hs HX c0 c1 c2 c3 c4 c5 v1
          go_upto_region 13 with (go_at_call 14; refine HRa.out.mono ?_; rintro e w5 ⟨ra5, rn5, rq5, z5, hi5, O5, rfl, hrn5, hz5, hG5, hm5, hon5, Sa5, da5, hI5, hF5⟩; have HI5 := hide hI5; have HF5 := hide hF5; have HN5 := hide (And.intro hrn5 (And.intro hz5 (And.intro hG5 (And.intro hm5 hon5.size)))); clear hI5 hF5 hrn5 hz5 hG5 hm5 hon5)
          clear v6 HRa
          obtain ⟨p5, hp5⟩ : ∃ pb, w5.heap.size = pb := ⟨_, rfl⟩
          obtain ⟨W5, hW5⟩ : ∃ W, W = w5.alloc (.cells #[.slice ra5 rn5 rq5, .int .i64 z5] 35) := ⟨_, rfl⟩
          have hb5 : Below w5.heap.size w5 W5 := by rw [hW5]; exact (Below.refl _ _).alloc (Nat.le_refl _) _
          have hpt5 : Blk W5 p5 35 #[.slice ra5 rn5 rq5, .int .i64 z5] := by rw [hW5, ← hp5]; exact heap_alloc_new w5 _
          rw [← hW5, hp5]
          have HI6 := hide (HI5.out.below hb5).swap
          have HPt5 := hide hpt5
          have HS5 : Hid (w3.heap.size ≤ p5) := by have := HN5.out.2.2.2.2; rw [Hid]; omega
          obtain ⟨Ab6, xb6, lvb6, hab6⟩ := HI6.out.a.alv
          have v6 : W5.cell? ⟨vb, 0, none⟩ = some (.pointer (some ⟨xb6, 0, none⟩)) := hab6.blk.cell 0
          have HRb := hide (HI6.out.paintO hab6 (by omega) 0 (by omega))
          clear hb5 hpt5 hW5 hp5 HI5 hab6
          go_upto_region 14 with (go_at_call 14; refine HRb.out.mono ?_; rintro e w6 ⟨ra6, rn6, rq6, z6, hi6, O6, rfl, hrn6, hz6, hG6, hm6, hon6, Sb6, db6, hI6, hF6⟩; have hO : O6 = O5 := (plain_one hG6 HN5.out.2.2.1 (fun x y => (by rw [hm6, HN5.out.2.2.2.1, HAg.out.1, HAg.out.2.1, HAg.out.2.2]))); have hrr : rn6 = rn5 := (by rw [hrn6, hO, HN5.out.1]); have hzz : ¬ z6 < z5 := (by have q := laidL_le (fun x y => noH_less sx x y) (rc O5) (rc O5).length; rw [hz6, hO, HN5.out.2.1]; omega); subst hrr; have HI7 := hide hI6.swap; have HF6 := hide hF6; have HPt6 := hide (HPt5.out.keep (hon6.block _ (block_lt HPt5.out) (fun hg => (by have := HLo.out _ hg; have := HS5.out; omega)))); clear hI6 hF6 hrn6 hz6 hG6 hm6 hon6 hO)
          clear v6 HRb HI6 HPt5
          obtain ⟨p6, hp6⟩ : ∃ pb, w6.heap.size = pb := ⟨_, rfl⟩
          obtain ⟨W6, hW6⟩ : ∃ W, W = w6.alloc (.cells #[.slice ra6 rn6 rq6, .int .i64 z6] 35) := ⟨_, rfl⟩
          have hb6 : Below w6.heap.size w6 W6 := by rw [hW6]; exact (Below.refl _ _).alloc (Nat.le_refl _) _
          have hpt6 : Blk W6 p6 35 #[.slice ra6 rn6 rq6, .int .i64 z6] := by rw [hW6, ← hp6]; exact heap_alloc_new w6 _
          have HPt7 := hide (HPt6.out.keep (hb6.block _ (block_lt HPt6.out)))
          rw [← hW6, hp6]
          have HI8 := hide (HI7.out.below hb6)
          have HPt8 := hide hpt6
          clear hb6 hpt6 hW6 hp6 HI7 HPt6
          have HSm : Hid (∀ (w8 w9 : World) (hi8 : 0 < da5.bufs.length) (hi9 : 0 < db6.bufs.length) (a8 a9 : Option Addr) (q8 q9 : Nat), w8.ownsRow W6.heap.size 51 4 (.slice a8 56 q8) 56 (pixCells (pxL da5.bufs[0].f 56)) → Below W6.heap.size W6 w8 → w9.ownsRow w8.heap.size 51 4 (.slice a9 56 q9) 56 (pixCells (pxL db6.bufs[0].f 56)) → Below w8.heap.size w8 w9 → Calls Tryz.prog 18 #[.slice a8 56 q8, .slice a9 56 q9] w9 fun e w' => e = .returned (.bool true) ∧ Below W6.heap.size W6 w') := fun w8 w9 hi8 hi9 a8 a9 q8 q9 ho8 hb8 ho9 hb9 => by
            obtain ⟨_, f2, f3⟩ := HF5.out
            obtain ⟨_, g2, g3⟩ := HF6.out
            rw [HI8.out.a.full hi8 f2 f3] at ho8
            rw [HI8.out.b.full hi9 g2 g3, picPx_noH] at ho9
            have hl : (picPx sx).length = 56 := pxL_len _ _
            refine (same_yes (picPx sx) _ _ w9 (pixAt_own (own_keep ho8 fun g hg => hb9.block g (ho8.lt g hg).2) hl) (pixAt_own ho9 hl) (by rw [hl]; omega)).mono ?_
            rintro e w' ⟨rfl, hb'⟩
            have h89 := hb8.trans (hb9.mono hb8.size)
            exact ⟨rfl, h89.trans (hb'.mono h89.size)⟩
          go_upto_region 15 with (first
            | (go_at_call_of 19 (Value.pointer (some ⟨va, 0, none⟩)); refine (alook_any HI8.out.a 0 (by omega)).mono ?_; rintro e w8 ⟨hi8, a8, q8, rfl, ho8, hb8⟩; have HO8 := hide (And.intro ho8 hb8); clear ho8 hb8)
            | (go_at_call_of 19 (Value.pointer (some ⟨vb, 0, none⟩)); refine (alook_any (HI8.out.below HO8.out.2).b 0 (by omega)).mono ?_; rintro e w9 ⟨hi9, a9, q9, rfl, ho9, hb9⟩; have HO9 := hide (And.intro ho9 hb9); clear ho9 hb9)
            | (go_at_call 18; refine (HSm.out _ _ hi8 hi9 _ _ _ _ HO8.out.1 HO8.out.2 HO9.out.1 HO9.out.2).mono ?_; rintro e w10 ⟨rfl, hb10⟩; have HI10 := hide (HI8.out.below hb10); have HB10 := hide hb10; clear hb10))
          have k0 : w10.cell? ⟨p5, 0, none⟩ = some (.slice ra5 rn6 rq5) := (HPt7.out.keep (HB10.out.block _ (block_lt HPt7.out))).cell 0
          have k1 : w10.cell? ⟨p5, 1, none⟩ = some (.int .i64 z5) := (HPt7.out.keep (HB10.out.block _ (block_lt HPt7.out))).cell 1
          have l0 : w10.cell? ⟨p6, 0, none⟩ = some (.slice ra6 rn6 rq6) := (HPt8.out.keep (HB10.out.block _ (block_lt HPt8.out))).cell 0
          have l1 : w10.cell? ⟨p6, 1, none⟩ = some (.int .i64 z6) := (HPt8.out.keep (HB10.out.block _ (block_lt HPt8.out))).cell 1
          clear HSm HO8 HO9 HI8 HPt7 HPt8 HB10
          go_wp2_with fail
          go_roundg gk
          case measure => omega
          case rel => exact ⟨k + 1, by go_num, by omega, _, _, _, _, _, _, ⟨HI10.out.a.oldTo2 (by omega), HI10.out.b.oldTo2 (by omega), HI10.out.ap⟩, HF5.out, HF6.out⟩

end Go.Proofs.YtofinpocigbbeaaGreat
