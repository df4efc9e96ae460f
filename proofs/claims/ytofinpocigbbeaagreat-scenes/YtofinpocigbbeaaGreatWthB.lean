import Derived.Test.YtofinpocigbbeaaGreatWth
namespace Go.Proofs.YtofinpocigbbeaaGreat
open Go.RowKit

theorem own_cap {w : World} {base : Nat} {e : TypeId} {size g n cap : Nat} {xs : List Value} (h : w.ownsRow base e size (.slice (some ⟨g, 0, none⟩) n cap) n xs) : n ≤ cap := by
  rcases h.2 with ⟨h, _⟩ | ⟨g', cap', cur, e, _, _, hle, _⟩
  · simp at h
  · simp at e; omega

set_option maxRecDepth 100000 in
set_option maxHeartbeats 1000000 in
theorem with_empty (x : Int) (base : Nat) (w : World) (hb : base ≤ w.heap.size) :
    Calls Tryz.prog 121 #[.slice none 0 0, .int .i64 x] w fun e w' => ∃ u, e = .returned u ∧ OwnI w' base u [x] ∧ Below base w w' := by
  obtain ⟨i0, hi0, hz0, hz1, hz2⟩ := info_parts intInfo
  go_enter Tryz.func121, Tryz.ntmps121
  go_wp2
  refine wp_loop_rounds 1 ?_
  rw [rounds_succ]
  go_wp2_with (at_builtin; refine wpList_append_lies _ rfl (.tmp 39) (.tmp 41) 24 rfl base 3 i0 (.int .i64 0) 1 8 Tryz.underlying24 hi0 hz0 hz1 hz2 rfl (by decide) (.slice none 0 0) 0 [] rfl (World.ownsRow_nil _ _ _ _) ⟨w.heap.size, 0, none⟩ 1 1 [.int .i64 x] rfl rfl (World.news_of_block (cs := #[.int .i64 x]) (t := 3) (fr := (0, 0)) (heap_alloc_new w _)) (by simp [Value.oneCell']) (by omega) (by unfold maxLen; omega) (by omega) (by simp; omega) _ rfl ?_; intro g cp w1 hown1 hgrow hat hlt; have HO1 := hide hown1; have HG1 := hide hgrow; have hcp : 1 ≤ cp := own_cap hown1; clear hown1 hgrow hat)
  go_ret
  exact ⟨_, rfl, ⟨HO1.out, fun h => by simp at h⟩, ((Below.refl _ _).alloc hb _).grown HG1.out (by simp; omega) fun k hk => by simp [Value.ownBlock] at hk⟩

end Go.Proofs.YtofinpocigbbeaaGreat
