import Derived.Test.YtofinpocigbbeaaGreatKzp
import Derived.Test.YtofinpocigbbeaaGreatKaw
import Derived.Deep.RegionHeld3
namespace Go.Proofs.YtofinpocigbbeaaGreat
open Go.RowKit

/-! ### Two screens beside one another -/

/-- What the picture is, pixel by pixel. -/
def picPx (st : St) : List R4 := pxL (fun k => (st.picU ((k % 8 : Nat) : Int) ((k / 8 : Nat) : Int) (st.visAll (-1))).1) 56

theorem Run.full {w wr : World} {S : Nat → Prop} {vb n m o : Nat} {st : St} {d : Cv} {ids : List Int} (h : Run w wr S vb n m o st d ids) {i : Nat} (hi : i < d.bufs.length) (ha : d.bufs[i].age = 1) (hs : ∀ x y, d.stale 1 x y = false) : pxL d.bufs[i].f 56 = picPx st := by
  unfold picPx pxL
  refine List.map_congr_left fun k hk => ?_
  have hk2 := List.mem_range.1 hk
  have := h.inv d.bufs[i] (List.getElem_mem hi) k (by rw [h.W, h.H]; exact hk2) (by rw [ha]; exact hs _ _)
  rw [h.W] at this
  exact this

structure Two (w wr : World) (Sa Sb : Nat → Prop) (va na ma oa : Nat) (sta : St) (da : Cv) (ida : List Int) (vb nb mb ob : Nat) (stb : St) (db : Cv) (idb : List Int) : Prop where
  a : Run w wr Sa va na ma oa sta da ida
  b : Run w wr Sb vb nb mb ob stb db idb
  ap : ∀ g, Sa g → ¬ Sb g

theorem Two.swap {w wr : World} {Sa Sb : Nat → Prop} {va na ma oa : Nat} {sta : St} {da : Cv} {ida : List Int} {vb nb mb ob : Nat} {stb : St} {db : Cv} {idb : List Int} (h : Two w wr Sa Sb va na ma oa sta da ida vb nb mb ob stb db idb) : Two w wr Sb Sa vb nb mb ob stb db idb va na ma oa sta da ida :=
  ⟨h.b, h.a, fun g hb ha => h.ap g ha hb⟩

theorem Two.below {w wr V : World} {Sa Sb : Nat → Prop} {va na ma oa : Nat} {sta : St} {da : Cv} {ida : List Int} {vb nb mb ob : Nat} {stb : St} {db : Cv} {idb : List Int} (h : Two w wr Sa Sb va na ma oa sta da ida vb nb mb ob stb db idb) (hV : Below wr.heap.size wr V) : Two w V Sa Sb va na ma oa sta da ida vb nb mb ob stb db idb :=
  ⟨h.a.below hV, h.b.below hV, h.ap⟩

theorem Run.base {w w1 wr : World} {S : Nat → Prop} {vb n m o : Nat} {st : St} {d : Cv} {ids : List Int} (h : Run w1 wr S vb n m o st d ids) (hb : Below w.heap.size w w1) : Run w wr S vb n m o st d ids :=
  ⟨h.fine, h.kept, h.alv, fun g hg => ⟨Nat.le_trans hb.size (h.lo g hg).1, (h.lo g hg).2⟩, h.inv, h.W, h.H, h.len, h.old, h.cnt, h.told, hb.trans (h.bel.mono hb.size)⟩

/-- Two screens are begun. -/
theorem two_start {w w1 w2 : World} {va vb na nb : Nat} {da db : Cv} (ha : AlvOk w1 (fun g => w.heap.size ≤ g ∧ g < w1.heap.size) va bg5 da []) (hda : BgD na da) (hba : Below w.heap.size w w1) (hb : AlvOk w2 (fun g => w1.heap.size ≤ g ∧ g < w2.heap.size) vb bg5 db []) (hdb : BgD nb db) (hbb : Below w1.heap.size w1 w2) :
    Two w w2 (fun g => w.heap.size ≤ g ∧ g < w1.heap.size) (fun g => w1.heap.size ≤ g ∧ g < w2.heap.size) va na 0 2 bg5 da [] vb nb 0 2 bg5 db [] :=
  ⟨(run_start ha hda hba).below hbb, (run_start hb hdb hbb).base hba, fun g h1 h2 => by omega⟩

theorem grow_ap {Sa Sb : Nat → Prop} {wr w' : World} (h : ∀ g, Sa g → ¬ Sb g) (hl : ∀ g, Sb g → g < wr.heap.size) : ∀ g, grow Sa wr w' g → ¬ Sb g := fun g hg hb => hg.elim (fun q => h g q hb) fun q => by have := hl g hb; omega

/-- The first one does a step. -/
theorem Two.does {w wr : World} {Sa Sb : Nat → Prop} {va na ma oa : Nat} {sta : St} {da : Cv} {ida : List Int} {vb nb mb ob : Nat} {stb : St} {db : Cv} {idb : List Int} (h : Two w wr Sa Sb va na ma oa sta da ida vb nb mb ob stb db idb) (hm : ma ≤ 100000) (t : StepD) (ht : StepOk t) :
    Calls Tryz.prog 13 #[.pointer (some ⟨va, 0, none⟩), .agg t.cells] wr fun e w' => e = .returned (.tuple #[]) ∧ ∃ Sa' da', DamTo da da' (stepM sta ida t).2.2 ∧ Two w w' Sa' Sb va na (ma + 1) oa (stepM sta ida t).1 da' (stepM sta ida t).2.1 vb nb mb ob stb db idb := by
  refine (h.a.step hm t ht).mono ?_
  rintro e w' ⟨rfl, ⟨da', hd, hr⟩, ho⟩
  exact ⟨rfl, _, da', hd, hr, h.b.other ho (fun g hg => (h.a.lo g hg).1) (fun g hb ha => h.ap g ha hb), grow_ap h.ap fun g hg => (h.b.lo g hg).2⟩

/-- A Repaint of the first one. -/
theorem Two.paint {w wr : World} {Sa Sb A : Nat → Prop} {va na ma oa x : Nat} {lv : Value} {sta : St} {da : Cv} {ida : List Int} {vb nb mb ob : Nat} {stb : St} {db : Cv} {idb : List Int} (h : Two w wr Sa Sb va na ma oa sta da ida vb nb mb ob stb db idb) (ha : AlvX wr Sa A va x lv sta da ida) (ho62 : oa ≤ 4611686018427387904) (i : Nat) (hi : i < na) :
    Calls Tryz.prog 14 #[.pointer (some ⟨x, 0, none⟩), .int .i64 i] wr fun e w' => ∃ (ra : Option Addr) (rn rq : Nat) (z : Int) (hi : i < da.bufs.length) (O : Rgn), e = .returned (.tuple #[.agg #[.slice ra rn rq, .int .i64 z], .int .i64 0]) ∧ rn = (rc O).length ∧ z = laidL (fun x y => (sta.picL (sta.visAll (-1)) x y).2) (rc O) (rc O).length ∧ Good O ∧ (∀ x y, memR O x y = da.stale da.bufs[i].age x y) ∧
      ∃ Sa' da' A', Two w w' Sa' Sb va na ma (oa + 1) sta da' ida vb nb mb ob stb db idb ∧ AlvX w' Sa' A' va x lv sta da' ida ∧ (∃ h : i < da'.bufs.length, da'.bufs[i].age = 1) ∧ ∀ x y, da'.stale 1 x y = false := by
  refine (h.a.repaint ha ho62 i hi).mono ?_
  rintro e w' ⟨hi', rv, O, d', rfl, hG, hm, hr, rfl, hR, ho, A', hA⟩
  obtain ⟨ra, rq, hrf⟩ := hr.form
  subst hrf
  obtain ⟨p1, p2, _, p4⟩ := painted_now h.a.alv.ok hi' (paintL da.W (rc O) (fun x y => (sta.picL (sta.visAll (-1)) x y).1) da.bufs[i].f)
  exact ⟨ra, _, rq, _, hi', O, rfl, rfl, rfl, hG, hm, _, _, A', ⟨hR, h.b.other ho (fun g hg => (h.a.lo g hg).1) (fun g hb ha => h.ap g ha hb), grow_ap h.ap fun g hg => (h.b.lo g hg).2⟩, hA, ⟨p1, p2⟩, p4⟩

/-- Garbage. -/
theorem Run.garbage {w wr : World} {S A : Nat → Prop} {vb x n m o : Nat} {lv : Value} {st : St} {d : Cv} {ids : List Int} (h : Run w wr S vb n m o st d ids) (ha : AlvX wr S A vb x lv st d ids) (i : Nat) (hi : i < n) (l : List R4) (v : Value) (hv : PixAt wr v l) (hl : l.length = 56) :
    Calls Tryz.prog 16 #[.pointer (some ⟨x, 0, none⟩), .int .i64 i, v] wr fun e w' => e = .returned (.int .i64 0) ∧ ∃ d' A', Run w w' (grow S wr w') vb n m o st d' ids ∧ AlvX w' (grow S wr w') A' vb x lv st d' ids ∧ Only S wr w' := by
  have hil : i < d.bufs.length := by rw [h.len]; exact hi
  refine (fuGarbage_any i hil l v wr ha.scr hv (by rw [h.W, h.H]; exact hl)).mono ?_
  rintro e w' ⟨rfl, ⟨g, hc⟩, hon⟩
  have hA := ha.turned hc hon
  have h1 := h.bel.size
  refine ⟨rfl, _, _, ⟨h.fine, h.kept, hA.1, grow_lo h.lo h1 hon.size, CvInv.fill h.alv.ok h.inv i g _, h.W, h.H, ?_, h.old, h.cnt, h.told, Below.onlyS h.bel hA.2 (fun g hg => (h.lo g hg).1) h1⟩, ha.call hc hon, hA.2⟩
  show (d.bufs.set i _).length = n
  rw [List.length_set, h.len]

theorem Two.garbage {w wr : World} {Sa Sb A : Nat → Prop} {va na ma oa x : Nat} {lv : Value} {sta : St} {da : Cv} {ida : List Int} {vb nb mb ob : Nat} {stb : St} {db : Cv} {idb : List Int} (h : Two w wr Sa Sb va na ma oa sta da ida vb nb mb ob stb db idb) (ha : AlvX wr Sa A va x lv sta da ida) (i : Nat) (hi : i < na) (l : List R4) (v : Value) (hv : PixAt wr v l) (hl : l.length = 56) :
    Calls Tryz.prog 16 #[.pointer (some ⟨x, 0, none⟩), .int .i64 i, v] wr fun e w' => e = .returned (.int .i64 0) ∧ ∃ Sa' da' A', Two w w' Sa' Sb va na ma oa sta da' ida vb nb mb ob stb db idb ∧ AlvX w' Sa' A' va x lv sta da' ida := by
  refine (h.a.garbage ha i hi l v hv hl).mono ?_
  rintro e w' ⟨rfl, d', A', hR, hA, ho⟩
  exact ⟨rfl, _, d', A', ⟨hR, h.b.other ho (fun g hg => (h.a.lo g hg).1) (fun g hb ha => h.ap g ha hb), grow_ap h.ap fun g hg => (h.b.lo g hg).2⟩, hA⟩

end Go.Proofs.YtofinpocigbbeaaGreat

namespace Go.Proofs.YtofinpocigbbeaaGreat
open Go.RowKit
attribute [local go_sem ↓] Go.wp_at_zero Go.wp_at_succ

set_option maxRecDepth 100000 in
set_option maxHeartbeats 1000000 in
/-- junk -/
theorem junk_any (raw : Int) (hr : -9223372036854775808 ≤ raw ∧ raw ≤ 9223372036854775807) (w : World) :
    Calls Tryz.prog 17 #[.int .i64 raw] w fun e w' => ∃ v L, e = .returned v ∧ L.length = 56 ∧ w'.ownsRow w.heap.size 51 4 v 56 (pixCells L) ∧ Below w.heap.size w w' := by
  obtain ⟨i0, hi0, hz0, hz1, hz2⟩ := info_parts pixInfo
  obtain ⟨p, hp⟩ : ∃ p, pickI raw 1099511627776 = p := ⟨_, rfl⟩
  have hpb := pick_bd raw 1099511627776 (by omega)
  rw [hp] at hpb
  have HPk : Hid (∀ w : World, Calls Tryz.prog 15 #[.int .i64 raw, .int .i64 1099511627776] w fun e w' => e = .returned (.int .i64 p) ∧ w' = w) := fun w => by
    have := pick_any raw 1099511627776 w hr.1 hr.2 (by omega) (by omega)
    rw [hp] at this
    exact this
  clear hp hr
  obtain ⟨hp0, hp1⟩ := hpb
  go_enter Tryz.func17, Tryz.ntmps17
  go_wp2_with fail
  go_loopg [3, 4] 56 (fun gg s3 s4 wr => ∃ (k : Nat) (L : List R4), s4 = .int .i64 k ∧ gg + k = 56 ∧ L.length = k ∧ wr.ownsRow w.heap.size 51 4 s3 k (pixCells L) ∧ Below w.heap.size w wr)
  case atStart => exact ⟨0, [], rfl, by omega, rfl, World.ownsRow_nil _ _ _ _, Below.refl _ _⟩
  case round =>
    rename World => wr
    obtain ⟨k, L, rfl, hgk, hL, ho, hb⟩ := hrel
    have HO := hide (And.intro ho hb)
    have HL := hide hL
    obtain ⟨sa, sc, rfl⟩ := row_form ho
    clear ho hb hL
    cases gk with
    | zero =>
      have hlt : ¬ (k : Int) < 56 := by omega
      have hkn : k = 56 := by omega
      subst hkn
      go_wp2_with fail
      go_ret
      exact ⟨_, rfl, L, HL.out, HO.out⟩
    | succ gk =>
      have hlt : (k : Int) < 56 := by omega
      obtain ⟨V, hV⟩ : ∃ V, p + 977 * (k : Int) = V := ⟨_, rfl⟩
      have w1 : IntKind.i64.wrap (977 * (k : Int)) = 977 * (k : Int) := by rw [IntKind.wrap_i64]; omega
      have w2 : IntKind.i64.wrap (p + 977 * (k : Int)) = V := by rw [IntKind.wrap_i64]; omega
      obtain ⟨V7, hV7⟩ : ∃ z, V.tdiv 7 = z := ⟨_, rfl⟩
      obtain ⟨V3, hV3⟩ : ∃ z, V.tdiv 3 = z := ⟨_, rfl⟩
      obtain ⟨V11, hV11⟩ : ∃ z, V.tdiv 11 = z := ⟨_, rfl⟩
      have d7 : IntKind.i64.wrap V7 = V7 := by rw [← hV7, Int.tdiv_eq_ediv_of_nonneg (by omega), IntKind.wrap_i64]; omega
      have d3 : IntKind.i64.wrap V3 = V3 := by rw [← hV3, Int.tdiv_eq_ediv_of_nonneg (by omega), IntKind.wrap_i64]; omega
      have d11 : IntKind.i64.wrap V11 = V11 := by rw [← hV11, Int.tdiv_eq_ediv_of_nonneg (by omega), IntKind.wrap_i64]; omega
      obtain ⟨P0, hP0⟩ : ∃ z, IntKind.u8.wrap V = z := ⟨_, rfl⟩
      obtain ⟨P1, hP1⟩ : ∃ z, IntKind.u8.wrap V7 = z := ⟨_, rfl⟩
      obtain ⟨P2, hP2⟩ : ∃ z, IntKind.u8.wrap V3 = z := ⟨_, rfl⟩
      obtain ⟨P3, hP3⟩ : ∃ z, IntKind.u8.wrap V11 = z := ⟨_, rfl⟩
      clear hV
      go_wp2_with (first
        | (go_at_call 15; refine (HPk.out _).mono ?_; rintro e w2 ⟨rfl, hw2⟩; replace hw2 := hw2.symm; subst hw2)
        | (at_builtin; refine wpList_append_lies _ rfl (.tmp 15) (.tmp 28) 44 rfl w.heap.size 51 i0 _ 4 4 Tryz.underlying44 hi0 hz0 hz1 hz2 rfl (by decide) (.slice sa k sc) k (pixCells L) rfl (HO.out.1.alloc _) ⟨wr.heap.size, 0, none⟩ 1 1 (pixCells [(P0, P1, P2, P3)]) rfl rfl (World.news_of_block (cs := #[.int .u8 P0, .int .u8 P1, .int .u8 P2, .int .u8 P3]) (t := 51) (fr := (0, 0)) (heap_alloc_new wr _)) (pix_oneCell _) (by omega) (by unfold maxLen; omega) (by omega) (by have := HO.out.2.size; simp; omega) _ rfl ?_; intro g4 c4 w4 ho4 hg4 ha4 hl4; have H4 := hide (And.intro ho4 (((HO.out.2.alloc HO.out.2.size _).grown hg4 (by have := HO.out.2.size; simp; omega) (fun q hq => (HO.out.1.lt q hq).1)))); clear ho4 hg4 ha4 hl4)
        | fail)
      go_roundg gk
      case measure => omega
      case rel =>
        refine ⟨k + 1, L ++ [(P0, P1, P2, P3)], by go_num, by omega, by rw [List.length_append, HL.out]; rfl, ?_, H4.out.2⟩
        rw [pixCells_append]
        exact H4.out.1

end Go.Proofs.YtofinpocigbbeaaGreat

namespace Go.Proofs.YtofinpocigbbeaaGreat
open Go.RowKit
attribute [local go_sem ↓] Go.wp_at_zero Go.wp_at_succ

/-- What is so behind k steps. -/
def StlI (w wr : World) (va vb k : Nat) : Prop := ∃ (Sa Sb : Nat → Prop) (st : St) (da db : Cv) (ids : List Int), Two w wr Sa Sb va 3 k (2 + 2 * k) st da ids vb 1 k (2 + k) st db ids

theorem Run.oldTo {w wr : World} {S : Nat → Prop} {vb n m o o' : Nat} {st : St} {d : Cv} {ids : List Int} (h : Run w wr S vb n m o st d ids) (ho : o ≤ o') : Run w wr S vb n m o' st d ids :=
  ⟨h.fine, h.kept, h.alv, h.lo, h.inv, h.W, h.H, h.len, Nat.le_trans h.old ho, h.cnt, h.told, h.bel⟩

theorem tmod_bd (c n : Int) (hn : 0 < n) : -n < c.tmod n ∧ c.tmod n < n := by
  by_cases h : 0 ≤ c
  · rw [Int.tmod_eq_emod_of_nonneg h]
    have h1 := Int.emod_nonneg c (show n ≠ 0 by omega)
    have h2 := Int.emod_lt_of_pos c hn
    omega
  · have e : c.tmod n = -((-c) % n) := by
      rw [← Int.tmod_eq_emod_of_nonneg (show 0 ≤ -c by omega), Int.neg_tmod, Int.neg_neg]
    have h1 := Int.emod_nonneg (-c) (show n ≠ 0 by omega)
    have h2 := Int.emod_lt_of_pos (-c) hn
    omega

set_option maxRecDepth 100000 in
set_option maxHeartbeats 4000000 in
theorem settled_walk (D : List StepD) (E : List Int) (u v : Value) (w : World) (hu : StepsAt w u D) (hv : IntsAt w v E) :
    Calls Tryz.prog 7 #[u, v] w fun e w' => e = .returned (.bool true) ∧ Below w.heap.size w w' := by
  obtain ⟨ua, uc, rfl⟩ := hu.form
  obtain ⟨ea, ec, rfl⟩ := hv.form
  obtain ⟨n, hn⟩ : ∃ n, D.length = n := ⟨_, rfl⟩
  obtain ⟨m, hm⟩ : ∃ m, E.length = m := ⟨_, rfl⟩
  rw [hn] at hu ⊢
  rw [hm] at hv ⊢
  have HU := hide (And.intro hu hn)
  have HV := hide (And.intro hv hm)
  have HB3 := hide (begun_any 3 (by omega) w)
  have HB1 : Hid (∀ V : World, _) := fun V : World => begun_any 1 (by omega) V
  clear hu hv hn hm
  go_enter Tryz.func7, Tryz.ntmps7
  go_wp2_with (first
    | (go_at_call_of 12 (Value.int IntKind.i64 3); refine HB3.out.mono ?_; rintro e w1 ⟨va, rfl, d1, ha, hd, hb⟩; have HA1 := hide (And.intro ha (And.intro hd hb)); clear ha hd hb HB3)
    | (go_at_call_of 12 (Value.int IntKind.i64 1); refine (HB1.out _).mono ?_; rintro e w2 ⟨vb, rfl, d2, ha, hd, hb⟩; have HR0 := hide (two_start HA1.out.1 HA1.out.2.1 HA1.out.2.2 ha hd hb); clear ha hd hb HB1 HA1))
  go_loopg [9] (min n 60) (fun gg s9 wr => ∃ k : Nat, s9 = .int .i64 k ∧ gg + k = min n 60 ∧ Hid (StlI w wr va vb k))
  case atStart => exact ⟨0, rfl, by omega, ⟨_, _, _, _, _, _, HR0.out⟩⟩
  case round =>
    rename World => wr
    clear HR0
    obtain ⟨k, rfl, hgk, HI⟩ := hrel
    cases gk with
    | zero =>
      have hex : ¬ (k : Int) < (n : Int) ∨ ((k : Int) < (n : Int) ∧ ¬ (k : Int) < 60) := by omega
      rcases hex with h | ⟨h1, h2⟩
      · go_wp2_with fail
        go_ret
        obtain ⟨_, _, _, _, _, _, q⟩ := HI.out
        exact ⟨rfl, q.a.bel⟩
      · go_wp2_with fail
        go_ret
        obtain ⟨_, _, _, _, _, _, q⟩ := HI.out
        exact ⟨rfl, q.a.bel⟩
    | succ gk =>
      have h1 : (k : Int) < (n : Int) := by omega
      have h2 : (k : Int) < 60 := by omega
      have hk60 : k ≤ 60 := by omega
      have hk : k < D.length := by have := HU.out.2; omega
      obtain ⟨Sa, Sb, st, da, db, ids, hT⟩ := HI.out
      obtain ⟨hc, b, off, hab, hbl, c0, c1, c2, c3, c4, c5⟩ := HU.out.1.at HU.out.2 hT.a.bel k hk
      subst hab
      obtain ⟨t, ht⟩ : ∃ t, D[k] = t := ⟨_, rfl⟩
      rw [ht] at c0 c1 c2 c3 c4 c5
      have hto := HU.out.1.ok t (ht ▸ List.getElem_mem hk)
      have hkc : k < uc := by omega
      have hk0 : (0 : Int) ≤ (k : Int) := by omega
      have HCl : Hid (∀ V : World, Below w.heap.size w V → V.cell? ⟨b, off + k * 6, none⟩ = some (.int .i64 t.k) ∧ V.cell? ⟨b, off + k * 6 + 1, none⟩ = some (.int .i64 t.a) ∧ V.cell? ⟨b, off + k * 6 + 2, none⟩ = some (.int .i64 t.b) ∧ V.cell? ⟨b, off + k * 6 + 3, none⟩ = some (.int .i64 t.c) ∧ V.cell? ⟨b, off + k * 6 + 4, none⟩ = some (.int .i64 t.d) ∧ V.cell? ⟨b, off + k * 6 + 5, none⟩ = some (.bool t.y)) := fun V hV => by
        have hx := hT.a.bel
        exact ⟨((hV.cell (p := ⟨b, _, none⟩) hbl).trans (hx.cell (p := ⟨b, _, none⟩) hbl).symm).trans c0, ((hV.cell (p := ⟨b, _, none⟩) hbl).trans (hx.cell (p := ⟨b, _, none⟩) hbl).symm).trans c1, ((hV.cell (p := ⟨b, _, none⟩) hbl).trans (hx.cell (p := ⟨b, _, none⟩) hbl).symm).trans c2, ((hV.cell (p := ⟨b, _, none⟩) hbl).trans (hx.cell (p := ⟨b, _, none⟩) hbl).symm).trans c3, ((hV.cell (p := ⟨b, _, none⟩) hbl).trans (hx.cell (p := ⟨b, _, none⟩) hbl).symm).trans c4, ((hV.cell (p := ⟨b, _, none⟩) hbl).trans (hx.cell (p := ⟨b, _, none⟩) hbl).symm).trans c5⟩
      have HT := hide hT
      have HTo := hide hto
      obtain ⟨st', hst'⟩ : ∃ z, (stepM st ids t).1 = z := ⟨_, rfl⟩
      obtain ⟨ids', hids'⟩ : ∃ z, (stepM st ids t).2.1 = z := ⟨_, rfl⟩
      have HSt := hide (And.intro hst' hids')
      have HD1 : Hid (Calls Tryz.prog 13 #[.pointer (some ⟨va, 0, none⟩), .agg #[.int .i64 t.k, .int .i64 t.a, .int .i64 t.b, .int .i64 t.c, .int .i64 t.d, .bool t.y]] wr fun e w' => e = .returned (.tuple #[]) ∧ ∃ Sa' da', Two w w' Sa' Sb va 3 (k + 1) (2 + 2 * k) st' da' ids' vb 1 k (2 + k) st db ids) :=
        (HT.out.does (by omega) t HTo.out).mono fun e w' ⟨q1, Sa', da', _, q2⟩ => ⟨q1, Sa', da', by rw [← hst', ← hids']; exact q2⟩
      have HD2 : Hid (∀ (V : World) (Sa' : Nat → Prop) (da' : Cv), Two w V Sa' Sb va 3 (k + 1) (2 + 2 * k) st' da' ids' vb 1 k (2 + k) st db ids → Calls Tryz.prog 13 #[.pointer (some ⟨vb, 0, none⟩), .agg #[.int .i64 t.k, .int .i64 t.a, .int .i64 t.b, .int .i64 t.c, .int .i64 t.d, .bool t.y]] V fun e w' => e = .returned (.tuple #[]) ∧ ∃ Sb' db', Two w w' Sb' Sa' vb 1 (k + 1) (2 + k) st' db' ids' va 3 (k + 1) (2 + 2 * k) st' da' ids') := fun V Sa' da' hV =>
        (hV.swap.does (by omega) t HTo.out).mono fun e w' ⟨q1, Sb', db', _, q2⟩ => ⟨q1, Sb', db', by rw [← hst', ← hids'] at q2 ⊢; exact q2⟩
      clear hT ht hc hto hst' hids' HI
      go_upto_region 11 with (first
        | (go_at_call_of 13 (Value.pointer (some ⟨va, 0, none⟩)); refine HD1.out.mono ?_; rintro e w2 ⟨rfl, Sa2, da2, hI⟩; have HI2 := hide hI; clear c0 c1 c2 c3 c4 c5; obtain ⟨c0, c1, c2, c3, c4, c5⟩ := HCl.out w2 hI.a.bel; clear hI)
        | (go_at_call_of 13 (Value.pointer (some ⟨vb, 0, none⟩)); refine (HD2.out _ _ _ HI2.out).mono ?_; rintro e w3 ⟨rfl, Sb3, db3, hI⟩; have HI3 := hide hI; clear c0 c1 c2 c3 c4 c5; obtain ⟨Ab, xb, lvb, hab⟩ := hI.a.alv; have v3 : w3.cell? ⟨vb, 0, none⟩ = some (.pointer (some ⟨xb, 0, none⟩)) := hab.blk.cell 0; have HAb := hide hab; clear hI hab)
        | (go_at_call 14; refine (HI3.out.paint HAb.out (by omega) 0 (by omega)).mono ?_; rintro e w4 ⟨ra, rn, rq, z, hi4, O4, rfl, hrn, hz, hG4, hm4, Sb4, db4, A4, hI, hA4, hfr, hst4⟩; have HI4 := hide hI; have HF4 := hide (And.intro hfr hst4); clear hI hfr hst4 v3 hrn hz hG4 hm4 hA4))
      obtain ⟨W4, hW4⟩ : ∃ W, W = w4.alloc (.cells #[.slice ra rn rq, .int .i64 z] 35) := ⟨_, rfl⟩
      have hb4 : Below w4.heap.size w4 W4 := by rw [hW4]; exact (Below.refl _ _).alloc (Nat.le_refl _) _
      rw [← hW4]
      have HI5 := hide (HI4.out.below hb4).swap
      clear hb4 hW4 HI4 HI3 HI2 HAb HD1 HD2 HCl HT HTo HSt
      have hpk : ((k : Int) < (m : Int) ∧ k < E.length) ∨ ¬ (k : Int) < (m : Int) := by have := HV.out.2; omega
      obtain ⟨c, hc64, HC⟩ : ∃ c : Int, I64 c ∧ Hid ((¬ (k : Int) < (m : Int) ∧ c = 0) ∨ ((k : Int) < (m : Int) ∧ k < ec ∧ (0 : Int) ≤ k ∧ ∃ pb po, ea = some ⟨pb, po, none⟩ ∧ W4.cell? ⟨pb, po + k, none⟩ = some (.int .i64 c))) := by
        rcases hpk with ⟨hp, hkE⟩ | hp
        · obtain ⟨hce, pb, po, q1, _, q2⟩ := HV.out.1.at HV.out.2 HI5.out.a.bel k hkE
          exact ⟨E[k], HV.out.1.ok _ (List.getElem_mem hkE), .inr ⟨hp, by omega, by omega, pb, po, q1, q2⟩⟩
        · exact ⟨0, by unfold I64; omega, .inl ⟨hp, rfl⟩⟩
      clear hpk
      obtain ⟨n3, hn3⟩ : ∃ n3 : Nat, pickI c 3 = n3 := ⟨(pickI c 3).toNat, by have := pick_bd c 3 (by omega); omega⟩
      have hn3b : n3 < 3 := by have := pick_bd c 3 (by omega); omega
      have HPk : Hid (∀ V : World, Calls Tryz.prog 15 #[.int .i64 c, .int .i64 3] V fun e w' => e = .returned (.int .i64 n3) ∧ w' = V) := fun V => by rw [← hn3]; exact pick_any c 3 V hc64.1 hc64.2 (by omega) (by omega)
      obtain ⟨Aa, xa, lva, haa⟩ := HI5.out.a.alv
      have HAa := hide haa
      have HJ : Hid (∀ V : World, Below W4.heap.size W4 V → Calls Tryz.prog 17 #[.int .i64 c] V fun e w1 => ∃ a q, e = .returned (.slice a 56 q) ∧ Below W4.heap.size W4 w1 ∧ ∀ V2 : World, Below w1.heap.size w1 V2 → Calls Tryz.prog 16 #[.pointer (some ⟨xa, 0, none⟩), .int .i64 n3, .slice a 56 q] V2 fun e w' => e = .returned (.int .i64 0) ∧ (∃ Sa' da' A', Two w w' Sa' Sb4 va 3 (k + 1) (2 + 2 * k) st' da' ids' vb 1 (k + 1) (2 + k + 1) st' db4 ids' ∧ AlvX w' Sa' A' va xa lva st' da' ids') ∧ w'.cell? ⟨va, 0, none⟩ = some (.pointer (some ⟨xa, 0, none⟩))) := fun V hV => by
        refine (junk_any c hc64 V).mono ?_
        rintro e w1 ⟨v, L, rfl, hL, ho, hb1⟩
        obtain ⟨a, q, hvf⟩ := row_form ho
        subst hvf
        have hb1' : Below W4.heap.size W4 w1 := hV.trans (hb1.mono hV.size)
        refine ⟨a, q, rfl, hb1', fun V2 hV2 => ?_⟩
        have hV2' : Below W4.heap.size W4 V2 := hb1'.trans (hV2.mono hb1'.size)
        refine ((HI5.out.below hV2').garbage (HAa.out.below hV2') n3 hn3b L _ ((pixAt_own ho hL).below hV2) hL).mono ?_
        rintro e w' ⟨rfl, Sa', da', A', q1, q2⟩
        exact ⟨rfl, ⟨Sa', da', A', q1, q2⟩, q2.blk.cell 0⟩
      clear haa hn3 hc64
      rcases HC.out with ⟨hp, rfl⟩ | ⟨hp, hkec, hk00, pb, po, rfl, e0⟩
      · clear HC HJ HPk
        go_wp2_with fail
        go_roundg gk
        case measure => omega
        case rel => exact ⟨k + 1, by go_num, by omega, _, _, _, _, _, _, HI5.out.a.oldTo (by omega), HI5.out.b.oldTo (by omega), HI5.out.ap⟩
      · clear HC
        obtain ⟨R5, hR5⟩ : ∃ z, c.tmod 5 = z := ⟨_, rfl⟩
        obtain ⟨R7, hR7⟩ : ∃ z, c.tmod 7 = z := ⟨_, rfl⟩
        have m5 : IntKind.i64.wrap R5 = R5 := by have := tmod_bd c 5 (by omega); rw [hR5] at this; rw [IntKind.wrap_i64]; omega
        have m7 : IntKind.i64.wrap R7 = R7 := by have := tmod_bd c 7 (by omega); rw [hR7] at this; rw [IntKind.wrap_i64]; omega
        by_cases h5 : R5 = 0
        · clear HJ HPk
          go_wp2_with fail
          go_roundg gk
          case measure => omega
          case rel => exact ⟨k + 1, by go_num, by omega, _, _, _, _, _, _, HI5.out.a.oldTo (by omega), HI5.out.b.oldTo (by omega), HI5.out.ap⟩
        · by_cases h7 : R7 = 0
          · go_upto_region 17 with (go_at_call 15; refine (HPk.out _).mono ?_; rintro e w6 ⟨rfl, hw6⟩; replace hw6 := hw6.symm; subst hw6)
            have v5 : W4.cell? ⟨va, 0, none⟩ = some (.pointer (some ⟨xa, 0, none⟩)) := HAa.out.blk.cell 0
            have HSc : Hid (∀ V : World, Below W4.heap.size W4 V → V.cell? ⟨va, 0, none⟩ = some (.pointer (some ⟨xa, 0, none⟩))) := fun V hV => (HAa.out.below hV).blk.cell 0
            clear v5 e0
            go_cut [14] (fun s14 wx => s14 = .int .i64 0 ∧ Hid (∃ Sa' da' A', Two w wx Sa' Sb4 va 3 (k + 1) (2 + 2 * k) st' da' ids' vb 1 (k + 1) (2 + k + 1) st' db4 ids' ∧ AlvX wx Sa' A' va xa lva st' da' ids'))
            case first =>
              go_region_held3 (fun w' => w'.cell? ⟨va, 0, none⟩ = some (.pointer (some ⟨xa, 0, none⟩)))
                (first
                  | (refine HSc.out _ ?_; (repeat (first | with_reducible exact Below.refl _ _ | with_reducible exact HIb.out | with_reducible refine Below.drew ?_)); done)
                  | exact HSd.out
                  | fail)
                (first
                  | (go_at_call 17; refine (HJ.out _ ?_).mono ?_; (repeat (first | with_reducible exact Below.refl _ _ | with_reducible refine Below.drew ?_)); rintro e w6 ⟨ja, jq, rfl, hb6, hg6⟩; have HIb := hide hb6; have HG6 := hide hg6; clear hb6 hg6)
                  | (go_at_call 16; refine (HG6.out _ ?_).mono ?_; (repeat (first | with_reducible exact Below.refl _ _ | with_reducible refine Below.drew ?_)); rintro e w7 ⟨rfl, hp, hcc⟩; have HP := hide hp; have HSd := hide hcc; clear hp hcc)
                  | fail)
              all_goals go_wp2_with fail
              all_goals go_meet
              all_goals exact ⟨rfl, HP.out⟩
            case rest =>
            obtain ⟨rfl, HX0⟩ := hcut
            obtain ⟨Sx, dx, Ax, hX, hAx⟩ := HX0.out
            have HX := hide hX
            have HAx := hide hAx
            clear hX hAx HX0 HJ HSc HI5 HAa
            have v6 : wc.cell? ⟨va, 0, none⟩ = some (.pointer (some ⟨xa, 0, none⟩)) := HAx.out.blk.cell 0
            go_upto_region 21 with (first
              | (go_at_call 15; refine (HPk.out _).mono ?_; rintro e w6 ⟨rfl, hw6⟩; replace hw6 := hw6.symm; subst hw6)
              | (go_at_call 14; refine (HX.out.paint HAx.out (by omega) n3 hn3b).mono ?_; rintro e w7 ⟨ra7, rn7, rq7, z7, hi7, O7, rfl, hrn7, hz7, hG7, hm7, Sa7, da7, A7, hI7, hA7, hfr7, hst7⟩; have HI7 := hide hI7; have HA7 := hide hA7; have HF7 := hide (And.intro hfr7 hst7); clear hI7 hA7 hfr7 hst7 hrn7 hz7 hG7 hm7 hi7))
            clear v6 HX HAx HPk
            obtain ⟨W7, hW7⟩ : ∃ W, W = w7.alloc (.cells #[.slice ra7 rn7 rq7, .int .i64 z7] 35) := ⟨_, rfl⟩
            have hb7 : Below w7.heap.size w7 W7 := by rw [hW7]; exact (Below.refl _ _).alloc (Nat.le_refl _) _
            rw [← hW7]
            have HI8 := hide (HI7.out.below hb7)
            have HA8 := hide (HA7.out.below hb7)
            clear hb7 hW7 HI7 HA7
            have HSm : Hid (∀ (w8 w9 : World) (hi8 : n3 < da7.bufs.length) (hi9 : 0 < db4.bufs.length) (a8 a9 : Option Addr) (q8 q9 : Nat), w8.ownsRow W7.heap.size 51 4 (.slice a8 56 q8) 56 (pixCells (pxL da7.bufs[n3].f 56)) → Below W7.heap.size W7 w8 → w9.ownsRow w8.heap.size 51 4 (.slice a9 56 q9) 56 (pixCells (pxL db4.bufs[0].f 56)) → Below w8.heap.size w8 w9 → Calls Tryz.prog 18 #[.slice a8 56 q8, .slice a9 56 q9] w9 fun e w' => e = .returned (.bool true) ∧ Below W7.heap.size W7 w') := fun w8 w9 hi8 hi9 a8 a9 q8 q9 ho8 hb8 ho9 hb9 => by
              rw [HI8.out.a.full hi8 HF7.out.1.2 HF7.out.2] at ho8
              rw [HI8.out.b.full hi9 HF4.out.1.2 HF4.out.2] at ho9
              have hl : (picPx st').length = 56 := pxL_len _ _
              refine (same_yes (picPx st') _ _ w9 (pixAt_own (own_keep ho8 fun g hg => hb9.block g (ho8.lt g hg).2) hl) (pixAt_own ho9 hl) (by rw [hl]; omega)).mono ?_
              rintro e w' ⟨rfl, hb'⟩
              have h89 := hb8.trans (hb9.mono hb8.size)
              exact ⟨rfl, h89.trans (hb'.mono h89.size)⟩
            go_upto_region 22 with (first
              | (go_at_call_of 19 (Value.pointer (some ⟨va, 0, none⟩)); refine (alook_any HI8.out.a n3 hn3b).mono ?_; rintro e w8 ⟨hi8, a8, q8, rfl, ho8, hb8⟩; have HO8 := hide (And.intro ho8 hb8); clear ho8 hb8)
              | (go_at_call_of 19 (Value.pointer (some ⟨vb, 0, none⟩)); refine (alook_any (HI8.out.below HO8.out.2).b 0 (by omega)).mono ?_; rintro e w9 ⟨hi9, a9, q9, rfl, ho9, hb9⟩; have HO9 := hide (And.intro ho9 hb9); clear ho9 hb9)
              | (go_at_call 18; refine (HSm.out _ _ hi8 hi9 _ _ _ _ HO8.out.1 HO8.out.2 HO9.out.1 HO9.out.2).mono ?_; rintro e w10 ⟨rfl, hb10⟩; have HI10 := hide (HI8.out.below hb10); have HA10 := hide (HA8.out.below hb10); clear hb10))
            clear HSm HO8 HO9 HI8 HA8
            have v10 : w10.cell? ⟨va, 0, none⟩ = some (.pointer (some ⟨xa, 0, none⟩)) := HA10.out.blk.cell 0
            go_upto_region 23 with (go_at_call 14; refine (HI10.out.paint HA10.out (by omega) n3 hn3b).mono ?_; rintro e w11 ⟨ra11, rn11, rq11, z11, hi11, O11, rfl, hrn, hz, hG, hm11, Sa11, da11, A11, hI11, hA11, hfr, hst11⟩; have HI11 := hide hI11; have hO : rc O11 = [] := rc_none hG (fun x y => (by rw [hm11, HF7.out.1.2]; exact HF7.out.2 x y)); rw [hO] at hrn hz; replace hrn : rn11 = 0 := hrn; replace hz : z11 = 0 := hz; subst hrn hz; clear hI11 hA11 hfr hst11 hO hG hm11 hi11)
            clear v10 HI10 HA10
            obtain ⟨pb11, hpb⟩ : ∃ pb, w11.heap.size = pb := ⟨_, rfl⟩
            obtain ⟨W11, hW11⟩ : ∃ W, W = w11.alloc (.cells #[.slice ra11 0 rq11, .int .i64 0] 35) := ⟨_, rfl⟩
            have hb11 : Below w11.heap.size w11 W11 := by rw [hW11]; exact (Below.refl _ _).alloc (Nat.le_refl _) _
            have hpt : Blk W11 pb11 35 #[.slice ra11 0 rq11, .int .i64 0] := by rw [hW11, ← hpb]; exact heap_alloc_new w11 _
            rw [← hW11, hpb]
            have p0 : W11.cell? ⟨pb11, 0, none⟩ = some (.slice ra11 0 rq11) := hpt.cell 0
            have p1 : W11.cell? ⟨pb11, 1, none⟩ = some (.int .i64 0) := hpt.cell 1
            have HI12 := hide (HI11.out.below hb11)
            clear hb11 hpt hW11 hpb HI11
            go_wp2_with fail
            go_roundg gk
            case measure => omega
            case rel => exact ⟨k + 1, by go_num, by omega, _, _, _, _, _, _, HI12.out.a.oldTo (by omega), HI12.out.b.oldTo (by omega), HI12.out.ap⟩
          · have HX := HI5
            have HAx := HAa
            clear HJ HI5 HAa
            have v6 : W4.cell? ⟨va, 0, none⟩ = some (.pointer (some ⟨xa, 0, none⟩)) := HAx.out.blk.cell 0
            go_upto_region 21 with (first
              | (go_at_call 15; refine (HPk.out _).mono ?_; rintro e w6 ⟨rfl, hw6⟩; replace hw6 := hw6.symm; subst hw6)
              | (go_at_call 14; refine (HX.out.paint HAx.out (by omega) n3 hn3b).mono ?_; rintro e w7 ⟨ra7, rn7, rq7, z7, hi7, O7, rfl, hrn7, hz7, hG7, hm7, Sa7, da7, A7, hI7, hA7, hfr7, hst7⟩; have HI7 := hide hI7; have HA7 := hide hA7; have HF7 := hide (And.intro hfr7 hst7); clear hI7 hA7 hfr7 hst7 hrn7 hz7 hG7 hm7 hi7))
            clear v6 HX HAx HPk
            obtain ⟨W7, hW7⟩ : ∃ W, W = w7.alloc (.cells #[.slice ra7 rn7 rq7, .int .i64 z7] 35) := ⟨_, rfl⟩
            have hb7 : Below w7.heap.size w7 W7 := by rw [hW7]; exact (Below.refl _ _).alloc (Nat.le_refl _) _
            rw [← hW7]
            have HI8 := hide (HI7.out.below hb7)
            have HA8 := hide (HA7.out.below hb7)
            clear hb7 hW7 HI7 HA7
            have HSm : Hid (∀ (w8 w9 : World) (hi8 : n3 < da7.bufs.length) (hi9 : 0 < db4.bufs.length) (a8 a9 : Option Addr) (q8 q9 : Nat), w8.ownsRow W7.heap.size 51 4 (.slice a8 56 q8) 56 (pixCells (pxL da7.bufs[n3].f 56)) → Below W7.heap.size W7 w8 → w9.ownsRow w8.heap.size 51 4 (.slice a9 56 q9) 56 (pixCells (pxL db4.bufs[0].f 56)) → Below w8.heap.size w8 w9 → Calls Tryz.prog 18 #[.slice a8 56 q8, .slice a9 56 q9] w9 fun e w' => e = .returned (.bool true) ∧ Below W7.heap.size W7 w') := fun w8 w9 hi8 hi9 a8 a9 q8 q9 ho8 hb8 ho9 hb9 => by
              rw [HI8.out.a.full hi8 HF7.out.1.2 HF7.out.2] at ho8
              rw [HI8.out.b.full hi9 HF4.out.1.2 HF4.out.2] at ho9
              have hl : (picPx st').length = 56 := pxL_len _ _
              refine (same_yes (picPx st') _ _ w9 (pixAt_own (own_keep ho8 fun g hg => hb9.block g (ho8.lt g hg).2) hl) (pixAt_own ho9 hl) (by rw [hl]; omega)).mono ?_
              rintro e w' ⟨rfl, hb'⟩
              have h89 := hb8.trans (hb9.mono hb8.size)
              exact ⟨rfl, h89.trans (hb'.mono h89.size)⟩
            go_upto_region 22 with (first
              | (go_at_call_of 19 (Value.pointer (some ⟨va, 0, none⟩)); refine (alook_any HI8.out.a n3 hn3b).mono ?_; rintro e w8 ⟨hi8, a8, q8, rfl, ho8, hb8⟩; have HO8 := hide (And.intro ho8 hb8); clear ho8 hb8)
              | (go_at_call_of 19 (Value.pointer (some ⟨vb, 0, none⟩)); refine (alook_any (HI8.out.below HO8.out.2).b 0 (by omega)).mono ?_; rintro e w9 ⟨hi9, a9, q9, rfl, ho9, hb9⟩; have HO9 := hide (And.intro ho9 hb9); clear ho9 hb9)
              | (go_at_call 18; refine (HSm.out _ _ hi8 hi9 _ _ _ _ HO8.out.1 HO8.out.2 HO9.out.1 HO9.out.2).mono ?_; rintro e w10 ⟨rfl, hb10⟩; have HI10 := hide (HI8.out.below hb10); have HA10 := hide (HA8.out.below hb10); clear hb10))
            clear HSm HO8 HO9 HI8 HA8
            have v10 : w10.cell? ⟨va, 0, none⟩ = some (.pointer (some ⟨xa, 0, none⟩)) := HA10.out.blk.cell 0
            go_upto_region 23 with (go_at_call 14; refine (HI10.out.paint HA10.out (by omega) n3 hn3b).mono ?_; rintro e w11 ⟨ra11, rn11, rq11, z11, hi11, O11, rfl, hrn, hz, hG, hm11, Sa11, da11, A11, hI11, hA11, hfr, hst11⟩; have HI11 := hide hI11; have hO : rc O11 = [] := rc_none hG (fun x y => (by rw [hm11, HF7.out.1.2]; exact HF7.out.2 x y)); rw [hO] at hrn hz; replace hrn : rn11 = 0 := hrn; replace hz : z11 = 0 := hz; subst hrn hz; clear hI11 hA11 hfr hst11 hO hG hm11 hi11)
            clear v10 HI10 HA10
            obtain ⟨pb11, hpb⟩ : ∃ pb, w11.heap.size = pb := ⟨_, rfl⟩
            obtain ⟨W11, hW11⟩ : ∃ W, W = w11.alloc (.cells #[.slice ra11 0 rq11, .int .i64 0] 35) := ⟨_, rfl⟩
            have hb11 : Below w11.heap.size w11 W11 := by rw [hW11]; exact (Below.refl _ _).alloc (Nat.le_refl _) _
            have hpt : Blk W11 pb11 35 #[.slice ra11 0 rq11, .int .i64 0] := by rw [hW11, ← hpb]; exact heap_alloc_new w11 _
            rw [← hW11, hpb]
            have p0 : W11.cell? ⟨pb11, 0, none⟩ = some (.slice ra11 0 rq11) := hpt.cell 0
            have p1 : W11.cell? ⟨pb11, 1, none⟩ = some (.int .i64 0) := hpt.cell 1
            have HI12 := hide (HI11.out.below hb11)
            clear hb11 hpt hW11 hpb HI11
            go_wp2_with fail
            go_roundg gk
            case measure => omega
            case rel => exact ⟨k + 1, by go_num, by omega, _, _, _, _, _, _, HI12.out.a.oldTo (by omega), HI12.out.b.oldTo (by omega), HI12.out.ap⟩

end Go.Proofs.YtofinpocigbbeaaGreat
