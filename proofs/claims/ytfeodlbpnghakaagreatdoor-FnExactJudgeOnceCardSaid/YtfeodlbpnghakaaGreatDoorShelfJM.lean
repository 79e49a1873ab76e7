/-
  Texts that stood by themselves, laid into one.
-/
import Derived.Test.YtfeodlbpnghakaaGreatDoorWOkSM
import Derived.Test.YtfeodlbpnghakaaGreatDoorWOkLM
import Derived.Test.YtfeodlbpnghakaaGreatDoorMach2M
import Derived.Test.YtfeodlbpnghakaaGreatDoorSEqM
import Derived.Lib.SlicesCompact
import Derived.Test.YtfeodlbpnghakaaGreatDoorJgRM
import Derived.Test.YtfeodlbpnghakaaGreatDoorInM
import Derived.Shelf.SlGeneric
import Derived.Shelf.Sort.Plain
import Derived.Shelf.Slices.CompactI
import Derived.Shelf.SlicesE.DeleteFunc
import Derived.Ground.SlgfProg
import Derived.Test.YtfeodlbpnghakaaGreatDoorProg
/-
  Contracts of impl.WorldOk and spec.WorldOk. The variable errors.errorType reads as it is laid.
-/
set_option maxRecDepth 100000
set_option maxHeartbeats 6400000
namespace Go.Proofs.YtfeodlbpnghakaaGreatDoor
open Go.RowKit
def worldB (d:Wd):Bool:=(Za5 d.ns d.is d.ds && (ZdP d.pl && pidB d.nx)) && ((d.hs.all (hmB d.ns d.is d.ds d.pl) && decide (d.hs.length ≤ 8)) && (lksB d && ((d.gs.all (gmB d.pl) && decide (d.gs.length ≤ 12)) && (d.ps.all (pdB d.pl) && decide (d.ps.length ≤ 20)))))
theorem pid_in {n:Int}{b:Bool}(h:(decide (1 ≤ n) && decide (n ≤ 1000000000))=b):pidB n=b:=by
  unfold pidB
  rw [← h,Bool.eq_iff_iff]
  simp
theorem placesB_nums {pl:Int}(h:ZdP pl=true):1 ≤ pl ∧ pl ≤ 3:=by
  unfold ZdP at h
  simp at h
  exact h
theorem iworldok_any (vn vi vf vh vl vg vp va vt:Value)(d:Wd)(B:Nat)(w:World)(R:WR B w vn vi vf vh vl vg vp va vt d)(hsm:∀ x ∈ d.hs,SmH x)(hg:ErrT w) :
    Calls Tryz.prog 55 #[.agg #[vn,vi,vf,.int .i64 d.pl,vh,vl,vg,vp,.int .i64 d.nx,va,vt]] w fun e w'=>e=.returned (.bool (worldB d)) ∧ Below w.heap.size w w':=by
  have R0:=R
  obtain ⟨⟨aan,ccn,rfl⟩,⟨aai,cci,rfl⟩,⟨aaf,ccf,rfl⟩,⟨aah,cch,rfl⟩,⟨aal,ccl,rfl⟩,⟨aag,ccg,rfl⟩,⟨aap,ccp,rfl⟩,⟨aaa,cca,rfl⟩,⟨aat,cct,rfl⟩⟩:=R.form
  have hB:=Zap w (Obj.cells #[.slice aan d.ns.length ccn,.slice aai d.is.length cci,.slice aaf d.ds.length ccf,.int .i64 d.pl,.slice aah d.hs.length cch,.slice aal d.ls.length ccl,.slice aag d.gs.length ccg,.slice aap d.ps.length ccp,.int .i64 d.nx,.slice aaa d.ga.length cca,.slice aat d.tk.length cct] 50)
  have hx:=heap_alloc_new w (Obj.cells #[.slice aan d.ns.length ccn,.slice aai d.is.length cci,.slice aaf d.ds.length ccf,.int .i64 d.pl,.slice aah d.hs.length cch,.slice aal d.ls.length ccl,.slice aag d.gs.length ccg,.slice aap d.ps.length ccp,.int .i64 d.nx,.slice aaa d.ga.length cca,.slice aat d.tk.length cct] 50)
  go_enter Tryz.func55,Tryz.ntmps55
  go_wp2_with (refine Zam rfl 44 _ rfl w.heap.size 0 rfl _ 50 #[.slice aan d.ns.length ccn,.slice aai d.is.length cci,.slice aaf d.ds.length ccf] _ hx rfl Tryz.underlying44 rfl ZmP ?_)
  refine (Zgt _ _ _ d.ns d.is d.ds _ (R0.rn.below hB) (R0.ri.below hB) (R0.rf.below hB)).mono ?_
  rintro e wh1 ⟨rfl,hb⟩
  replace hx:=Zae hx hb
  replace hB:=hB.trans (hb.mono hB.size)
  clear hb
  obtain ⟨bh1,h1⟩:∃ b,Za5 d.ns d.is d.ds=b:=⟨_,rfl⟩
  rw [h1]
  cases bh1 with
  | false =>
    have HR:Hid (worldB d=false):=by
      unfold Hid worldB
      rw [h1];rfl
    go_wp2
    go_ret
    exact ⟨by rw [HR.out];rfl,hB⟩
  | true =>
    have kc:wh1.cell? ⟨w.heap.size,0+3,none⟩=some (.int .i64 d.pl):=cell_of_row _ _ 3 _ _ _ hx
    go_wp2_with fail
    clear kc
    refine (Zkq d.pl _).mono ?_
    rintro e wE ⟨rfl,rfl⟩
    obtain ⟨bh2,h2⟩:∃ b,ZdP d.pl=b:=⟨_,rfl⟩
    rw [h2]
    cases bh2 with
    | false =>
      have HR:Hid (worldB d=false):=by
        unfold Hid worldB
        rw [h1,h2];rfl
      go_wp2
      go_ret
      exact ⟨by rw [HR.out];rfl,hB⟩
    | true =>
      have hpl:=placesB_nums h2
      have kw0:wE.cell? ⟨w.heap.size,0,none⟩=some (.slice aan d.ns.length ccn):=cell_of_row wE _ 0 _ _ _ hx
      have kw1:wE.cell? ⟨w.heap.size,1,none⟩=some (.slice aai d.is.length cci):=cell_of_row wE _ 1 _ _ _ hx
      have kw2:wE.cell? ⟨w.heap.size,2,none⟩=some (.slice aaf d.ds.length ccf):=cell_of_row wE _ 2 _ _ _ hx
      have kw3:wE.cell? ⟨w.heap.size,3,none⟩=some (.int .i64 d.pl):=cell_of_row wE _ 3 _ _ _ hx
      have kw4:wE.cell? ⟨w.heap.size,4,none⟩=some (.slice aah d.hs.length cch):=cell_of_row wE _ 4 _ _ _ hx
      have kw5:wE.cell? ⟨w.heap.size,5,none⟩=some (.slice aal d.ls.length ccl):=cell_of_row wE _ 5 _ _ _ hx
      have kw6:wE.cell? ⟨w.heap.size,6,none⟩=some (.slice aag d.gs.length ccg):=cell_of_row wE _ 6 _ _ _ hx
      have kw7:wE.cell? ⟨w.heap.size,7,none⟩=some (.slice aap d.ps.length ccp):=cell_of_row wE _ 7 _ _ _ hx
      have kw8:wE.cell? ⟨w.heap.size,8,none⟩=some (.int .i64 d.nx):=cell_of_row wE _ 8 _ _ _ hx
      have kw9:wE.cell? ⟨w.heap.size,9,none⟩=some (.slice aaa d.ga.length cca):=cell_of_row wE _ 9 _ _ _ hx
      have kw10:wE.cell? ⟨w.heap.size,10,none⟩=some (.slice aat d.tk.length cct):=cell_of_row wE _ 10 _ _ _ hx
      go_wp2_with fail
      clear kw0 kw1 kw2 kw3 kw4 kw5 kw6 kw7 kw8 kw9 kw10
      refine (Zle _ _ _ _ _ _ _ _ _ d B _ (R0.below hB) hsm (hg.below hB (Nat.le_refl _))).mono ?_
      rintro e wh3 ⟨rfl,hb⟩
      replace hx:=Zae hx hb
      replace hB:=hB.trans (hb.mono hB.size)
      clear hb
      obtain ⟨bh3,h3⟩:∃ b,(decide (d.hs.length ≤ 8) && d.hs.all (hmB d.ns d.is d.ds d.pl))=b:=⟨_,rfl⟩
      rw [h3]
      cases bh3 with
      | false =>
        have HR:Hid (worldB d=false):=by
          unfold Hid worldB
          have q:(d.hs.all (hmB d.ns d.is d.ds d.pl) && decide (d.hs.length ≤ 8))=false:=by rw [Bool.and_comm];exact h3
          rw [q];simp
        go_wp2
        go_ret
        exact ⟨by rw [HR.out];rfl,hB⟩
      | true =>
        have kw0:wh3.cell? ⟨w.heap.size,0,none⟩=some (.slice aan d.ns.length ccn):=cell_of_row wh3 _ 0 _ _ _ hx
        have kw1:wh3.cell? ⟨w.heap.size,1,none⟩=some (.slice aai d.is.length cci):=cell_of_row wh3 _ 1 _ _ _ hx
        have kw2:wh3.cell? ⟨w.heap.size,2,none⟩=some (.slice aaf d.ds.length ccf):=cell_of_row wh3 _ 2 _ _ _ hx
        have kw3:wh3.cell? ⟨w.heap.size,3,none⟩=some (.int .i64 d.pl):=cell_of_row wh3 _ 3 _ _ _ hx
        have kw4:wh3.cell? ⟨w.heap.size,4,none⟩=some (.slice aah d.hs.length cch):=cell_of_row wh3 _ 4 _ _ _ hx
        have kw5:wh3.cell? ⟨w.heap.size,5,none⟩=some (.slice aal d.ls.length ccl):=cell_of_row wh3 _ 5 _ _ _ hx
        have kw6:wh3.cell? ⟨w.heap.size,6,none⟩=some (.slice aag d.gs.length ccg):=cell_of_row wh3 _ 6 _ _ _ hx
        have kw7:wh3.cell? ⟨w.heap.size,7,none⟩=some (.slice aap d.ps.length ccp):=cell_of_row wh3 _ 7 _ _ _ hx
        have kw8:wh3.cell? ⟨w.heap.size,8,none⟩=some (.int .i64 d.nx):=cell_of_row wh3 _ 8 _ _ _ hx
        have kw9:wh3.cell? ⟨w.heap.size,9,none⟩=some (.slice aaa d.ga.length cca):=cell_of_row wh3 _ 9 _ _ _ hx
        have kw10:wh3.cell? ⟨w.heap.size,10,none⟩=some (.slice aat d.tk.length cct):=cell_of_row wh3 _ 10 _ _ _ hx
        go_wp2_with fail
        clear kw0 kw1 kw2 kw3 kw4 kw5 kw6 kw7 kw8 kw9 kw10
        refine (Zlh _ _ _ _ _ _ _ _ _ d B _ (R0.below hB) hpl.1 hpl.2).mono ?_
        rintro e wh4 ⟨rfl,hb⟩
        replace hx:=Zae hx hb
        replace hB:=hB.trans (hb.mono hB.size)
        clear hb
        obtain ⟨bh4,h4⟩:∃ b,lksB d=b:=⟨_,rfl⟩
        rw [h4]
        cases bh4 with
        | false =>
          have HR:Hid (worldB d=false):=by
            unfold Hid worldB
            rw [h4];simp
          go_wp2
          go_ret
          exact ⟨by rw [HR.out];rfl,hB⟩
        | true =>
          have kw0:wh4.cell? ⟨w.heap.size,0,none⟩=some (.slice aan d.ns.length ccn):=cell_of_row wh4 _ 0 _ _ _ hx
          have kw1:wh4.cell? ⟨w.heap.size,1,none⟩=some (.slice aai d.is.length cci):=cell_of_row wh4 _ 1 _ _ _ hx
          have kw2:wh4.cell? ⟨w.heap.size,2,none⟩=some (.slice aaf d.ds.length ccf):=cell_of_row wh4 _ 2 _ _ _ hx
          have kw3:wh4.cell? ⟨w.heap.size,3,none⟩=some (.int .i64 d.pl):=cell_of_row wh4 _ 3 _ _ _ hx
          have kw4:wh4.cell? ⟨w.heap.size,4,none⟩=some (.slice aah d.hs.length cch):=cell_of_row wh4 _ 4 _ _ _ hx
          have kw5:wh4.cell? ⟨w.heap.size,5,none⟩=some (.slice aal d.ls.length ccl):=cell_of_row wh4 _ 5 _ _ _ hx
          have kw6:wh4.cell? ⟨w.heap.size,6,none⟩=some (.slice aag d.gs.length ccg):=cell_of_row wh4 _ 6 _ _ _ hx
          have kw7:wh4.cell? ⟨w.heap.size,7,none⟩=some (.slice aap d.ps.length ccp):=cell_of_row wh4 _ 7 _ _ _ hx
          have kw8:wh4.cell? ⟨w.heap.size,8,none⟩=some (.int .i64 d.nx):=cell_of_row wh4 _ 8 _ _ _ hx
          have kw9:wh4.cell? ⟨w.heap.size,9,none⟩=some (.slice aaa d.ga.length cca):=cell_of_row wh4 _ 9 _ _ _ hx
          have kw10:wh4.cell? ⟨w.heap.size,10,none⟩=some (.slice aat d.tk.length cct):=cell_of_row wh4 _ 10 _ _ _ hx
          go_wp2_with fail
          clear kw0 kw1 kw2 kw3 kw4 kw5 kw6 kw7 kw8 kw9 kw10
          refine (Zlj _ _ _ _ _ _ _ _ _ d B _ (R0.below hB)).mono ?_
          rintro e wh5 ⟨rfl,hb⟩
          replace hx:=Zae hx hb
          replace hB:=hB.trans (hb.mono hB.size)
          clear hb
          obtain ⟨bh5,h5⟩:∃ b,(decide (d.gs.length ≤ 12) && d.gs.all (gmB d.pl))=b:=⟨_,rfl⟩
          rw [h5]
          cases bh5 with
          | false =>
            have HR:Hid (worldB d=false):=by
              unfold Hid worldB
              have q:(d.gs.all (gmB d.pl) && decide (d.gs.length ≤ 12))=false:=by rw [Bool.and_comm];exact h5
              rw [q];simp
            go_wp2
            go_ret
            exact ⟨by rw [HR.out];rfl,hB⟩
          | true =>
            have kw0:wh5.cell? ⟨w.heap.size,0,none⟩=some (.slice aan d.ns.length ccn):=cell_of_row wh5 _ 0 _ _ _ hx
            have kw1:wh5.cell? ⟨w.heap.size,1,none⟩=some (.slice aai d.is.length cci):=cell_of_row wh5 _ 1 _ _ _ hx
            have kw2:wh5.cell? ⟨w.heap.size,2,none⟩=some (.slice aaf d.ds.length ccf):=cell_of_row wh5 _ 2 _ _ _ hx
            have kw3:wh5.cell? ⟨w.heap.size,3,none⟩=some (.int .i64 d.pl):=cell_of_row wh5 _ 3 _ _ _ hx
            have kw4:wh5.cell? ⟨w.heap.size,4,none⟩=some (.slice aah d.hs.length cch):=cell_of_row wh5 _ 4 _ _ _ hx
            have kw5:wh5.cell? ⟨w.heap.size,5,none⟩=some (.slice aal d.ls.length ccl):=cell_of_row wh5 _ 5 _ _ _ hx
            have kw6:wh5.cell? ⟨w.heap.size,6,none⟩=some (.slice aag d.gs.length ccg):=cell_of_row wh5 _ 6 _ _ _ hx
            have kw7:wh5.cell? ⟨w.heap.size,7,none⟩=some (.slice aap d.ps.length ccp):=cell_of_row wh5 _ 7 _ _ _ hx
            have kw8:wh5.cell? ⟨w.heap.size,8,none⟩=some (.int .i64 d.nx):=cell_of_row wh5 _ 8 _ _ _ hx
            have kw9:wh5.cell? ⟨w.heap.size,9,none⟩=some (.slice aaa d.ga.length cca):=cell_of_row wh5 _ 9 _ _ _ hx
            have kw10:wh5.cell? ⟨w.heap.size,10,none⟩=some (.slice aat d.tk.length cct):=cell_of_row wh5 _ 10 _ _ _ hx
            go_wp2_with fail
            clear kw0 kw1 kw2 kw3 kw4 kw5 kw6 kw7 kw8 kw9 kw10
            refine (Zj3 _ _ _ _ _ _ _ _ _ d B _ (R0.below hB)).mono ?_
            rintro e wh6 ⟨rfl,hb⟩
            replace hx:=Zae hx hb
            replace hB:=hB.trans (hb.mono hB.size)
            clear hb
            obtain ⟨bh6,h6⟩:∃ b,(decide (d.ps.length ≤ 20) && d.ps.all (pdB d.pl))=b:=⟨_,rfl⟩
            rw [h6]
            cases bh6 with
            | false =>
              have HR:Hid (worldB d=false):=by
                unfold Hid worldB
                have q:(d.ps.all (pdB d.pl) && decide (d.ps.length ≤ 20))=false:=by rw [Bool.and_comm];exact h6
                rw [q];simp
              go_wp2
              go_ret
              exact ⟨by rw [HR.out];rfl,hB⟩
            | true =>
              have kc:wh6.cell? ⟨w.heap.size,0+8,none⟩=some (.int .i64 d.nx):=cell_of_row _ _ 8 _ _ _ hx
              go_wp2_with fail
              clear kc
              refine (Zi0 d.nx _).mono ?_
              rintro e wE ⟨rfl,rfl⟩
              obtain ⟨bh7,h7⟩:∃ b,pidB d.nx=b:=⟨_,rfl⟩
              rw [h7]
              cases bh7 with
              | false =>
                have HR:Hid (worldB d=false):=by
                  unfold Hid worldB
                  rw [h7];simp
                go_wp2
                go_ret
                exact ⟨by rw [HR.out];rfl,hB⟩
              | true =>
                have HR:Hid (worldB d=true):=by unfold Hid worldB;rw [Bool.and_comm] at h3 h5 h6;rw [h1,h2,h4,h7,h3,h5,h6];rfl
                go_wp2
                go_ret
                exact ⟨by rw [HR.out];rfl,hB⟩
theorem sworldok_any (vn vi vf vh vl vg vp va vt:Value)(d:Wd)(B:Nat)(w:World)(R:WR B w vn vi vf vh vl vg vp va vt d)(hsm:∀ x ∈ d.hs,SmH x) :
    Calls Tryz.prog 15 #[.agg #[vn,vi,vf,.int .i64 d.pl,vh,vl,vg,vp,.int .i64 d.nx,va,vt]] w fun e w'=>e=.returned (.bool (worldB d)) ∧ Below w.heap.size w w':=by
  have R0:=R
  obtain ⟨⟨aan,ccn,rfl⟩,⟨aai,cci,rfl⟩,⟨aaf,ccf,rfl⟩,⟨aah,cch,rfl⟩,⟨aal,ccl,rfl⟩,⟨aag,ccg,rfl⟩,⟨aap,ccp,rfl⟩,⟨aaa,cca,rfl⟩,⟨aat,cct,rfl⟩⟩:=R.form
  have hB:=Zap w (Obj.cells #[.slice aan d.ns.length ccn,.slice aai d.is.length cci,.slice aaf d.ds.length ccf,.int .i64 d.pl,.slice aah d.hs.length cch,.slice aal d.ls.length ccl,.slice aag d.gs.length ccg,.slice aap d.ps.length ccp,.int .i64 d.nx,.slice aaa d.ga.length cca,.slice aat d.tk.length cct] 50)
  have hx:=heap_alloc_new w (Obj.cells #[.slice aan d.ns.length ccn,.slice aai d.is.length cci,.slice aaf d.ds.length ccf,.int .i64 d.pl,.slice aah d.hs.length cch,.slice aal d.ls.length ccl,.slice aag d.gs.length ccg,.slice aap d.ps.length ccp,.int .i64 d.nx,.slice aaa d.ga.length cca,.slice aat d.tk.length cct] 50)
  go_enter Tryz.func15,Tryz.ntmps15
  go_wp2_with fail
  refine (Zar _ _ _ _).mono ?_
  rintro e wE ⟨rfl,rfl⟩
  obtain ⟨bh2,h2⟩:∃ b,(decide (1 ≤ d.pl) && decide (d.pl ≤ 3))=b:=⟨_,rfl⟩
  rw [h2]
  cases bh2 with
  | false =>
    have HR:Hid (worldB d=false):=by
      unfold Hid worldB
      have q:ZdP d.pl=false:=h2
      rw [q];simp
    go_wp2
    go_ret
    exact ⟨by rw [HR.out];rfl,hB⟩
  | true =>
    have kc:(w.alloc (Obj.cells #[.slice aan d.ns.length ccn,.slice aai d.is.length cci,.slice aaf d.ds.length ccf,.int .i64 d.pl,.slice aah d.hs.length cch,.slice aal d.ls.length ccl,.slice aag d.gs.length ccg,.slice aap d.ps.length ccp,.int .i64 d.nx,.slice aaa d.ga.length cca,.slice aat d.tk.length cct] 50)).cell? ⟨w.heap.size,0+8,none⟩=some (.int .i64 d.nx):=cell_of_row _ _ 8 _ _ _ hx
    go_wp2_with fail
    clear kc
    refine (Zar _ _ _ _).mono ?_
    rintro e wE ⟨rfl,rfl⟩
    obtain ⟨bh7,h7⟩:∃ b,(decide (1 ≤ d.nx) && decide (d.nx ≤ 1000000000))=b:=⟨_,rfl⟩
    rw [h7]
    cases bh7 with
    | false =>
      have HR:Hid (worldB d=false):=by
        unfold Hid worldB
        rw [pid_in h7];simp
      go_wp2
      go_ret
      exact ⟨by rw [HR.out];rfl,hB⟩
    | true =>
      have hpl:=placesB_nums h2
      have kw0:(w.alloc (Obj.cells #[.slice aan d.ns.length ccn,.slice aai d.is.length cci,.slice aaf d.ds.length ccf,.int .i64 d.pl,.slice aah d.hs.length cch,.slice aal d.ls.length ccl,.slice aag d.gs.length ccg,.slice aap d.ps.length ccp,.int .i64 d.nx,.slice aaa d.ga.length cca,.slice aat d.tk.length cct] 50)).cell? ⟨w.heap.size,0,none⟩=some (.slice aan d.ns.length ccn):=cell_of_row (w.alloc (Obj.cells #[.slice aan d.ns.length ccn,.slice aai d.is.length cci,.slice aaf d.ds.length ccf,.int .i64 d.pl,.slice aah d.hs.length cch,.slice aal d.ls.length ccl,.slice aag d.gs.length ccg,.slice aap d.ps.length ccp,.int .i64 d.nx,.slice aaa d.ga.length cca,.slice aat d.tk.length cct] 50)) _ 0 _ _ _ hx
      have kw1:(w.alloc (Obj.cells #[.slice aan d.ns.length ccn,.slice aai d.is.length cci,.slice aaf d.ds.length ccf,.int .i64 d.pl,.slice aah d.hs.length cch,.slice aal d.ls.length ccl,.slice aag d.gs.length ccg,.slice aap d.ps.length ccp,.int .i64 d.nx,.slice aaa d.ga.length cca,.slice aat d.tk.length cct] 50)).cell? ⟨w.heap.size,1,none⟩=some (.slice aai d.is.length cci):=cell_of_row (w.alloc (Obj.cells #[.slice aan d.ns.length ccn,.slice aai d.is.length cci,.slice aaf d.ds.length ccf,.int .i64 d.pl,.slice aah d.hs.length cch,.slice aal d.ls.length ccl,.slice aag d.gs.length ccg,.slice aap d.ps.length ccp,.int .i64 d.nx,.slice aaa d.ga.length cca,.slice aat d.tk.length cct] 50)) _ 1 _ _ _ hx
      have kw2:(w.alloc (Obj.cells #[.slice aan d.ns.length ccn,.slice aai d.is.length cci,.slice aaf d.ds.length ccf,.int .i64 d.pl,.slice aah d.hs.length cch,.slice aal d.ls.length ccl,.slice aag d.gs.length ccg,.slice aap d.ps.length ccp,.int .i64 d.nx,.slice aaa d.ga.length cca,.slice aat d.tk.length cct] 50)).cell? ⟨w.heap.size,2,none⟩=some (.slice aaf d.ds.length ccf):=cell_of_row (w.alloc (Obj.cells #[.slice aan d.ns.length ccn,.slice aai d.is.length cci,.slice aaf d.ds.length ccf,.int .i64 d.pl,.slice aah d.hs.length cch,.slice aal d.ls.length ccl,.slice aag d.gs.length ccg,.slice aap d.ps.length ccp,.int .i64 d.nx,.slice aaa d.ga.length cca,.slice aat d.tk.length cct] 50)) _ 2 _ _ _ hx
      go_wp2_with fail
      clear kw0 kw1 kw2
      refine (Zf5 _ _ _ d.ns d.is d.ds _ (R0.rn.below hB) (R0.ri.below hB) (R0.rf.below hB)).mono ?_
      rintro e wh1 ⟨rfl,hb⟩
      replace hx:=Zae hx hb
      replace hB:=hB.trans (hb.mono hB.size)
      clear hb
      obtain ⟨bh1,h1⟩:∃ b,Za5 d.ns d.is d.ds=b:=⟨_,rfl⟩
      rw [h1]
      cases bh1 with
      | false =>
        have HR:Hid (worldB d=false):=by
          unfold Hid worldB
          rw [h1];rfl
        go_wp2
        go_ret
        exact ⟨by rw [HR.out];rfl,hB⟩
      | true =>
        have kw0:wh1.cell? ⟨w.heap.size,0,none⟩=some (.slice aan d.ns.length ccn):=cell_of_row wh1 _ 0 _ _ _ hx
        have kw1:wh1.cell? ⟨w.heap.size,1,none⟩=some (.slice aai d.is.length cci):=cell_of_row wh1 _ 1 _ _ _ hx
        have kw2:wh1.cell? ⟨w.heap.size,2,none⟩=some (.slice aaf d.ds.length ccf):=cell_of_row wh1 _ 2 _ _ _ hx
        have kw3:wh1.cell? ⟨w.heap.size,3,none⟩=some (.int .i64 d.pl):=cell_of_row wh1 _ 3 _ _ _ hx
        have kw4:wh1.cell? ⟨w.heap.size,4,none⟩=some (.slice aah d.hs.length cch):=cell_of_row wh1 _ 4 _ _ _ hx
        have kw5:wh1.cell? ⟨w.heap.size,5,none⟩=some (.slice aal d.ls.length ccl):=cell_of_row wh1 _ 5 _ _ _ hx
        have kw6:wh1.cell? ⟨w.heap.size,6,none⟩=some (.slice aag d.gs.length ccg):=cell_of_row wh1 _ 6 _ _ _ hx
        have kw7:wh1.cell? ⟨w.heap.size,7,none⟩=some (.slice aap d.ps.length ccp):=cell_of_row wh1 _ 7 _ _ _ hx
        have kw8:wh1.cell? ⟨w.heap.size,8,none⟩=some (.int .i64 d.nx):=cell_of_row wh1 _ 8 _ _ _ hx
        have kw9:wh1.cell? ⟨w.heap.size,9,none⟩=some (.slice aaa d.ga.length cca):=cell_of_row wh1 _ 9 _ _ _ hx
        have kw10:wh1.cell? ⟨w.heap.size,10,none⟩=some (.slice aat d.tk.length cct):=cell_of_row wh1 _ 10 _ _ _ hx
        go_wp2_with fail
        clear kw0 kw1 kw2 kw3 kw4 kw5 kw6 kw7 kw8 kw9 kw10
        refine (Zlb _ _ _ _ _ _ _ _ _ d B _ (R0.below hB) hpl.1 hpl.2 hsm).mono ?_
        rintro e wh3 ⟨rfl,hb⟩
        replace hx:=Zae hx hb
        replace hB:=hB.trans (hb.mono hB.size)
        clear hb
        obtain ⟨bh3,h3⟩:∃ b,(d.hs.all (hmB d.ns d.is d.ds d.pl) && decide (d.hs.length ≤ 8))=b:=⟨_,rfl⟩
        rw [h3]
        cases bh3 with
        | false =>
          have HR:Hid (worldB d=false):=by
            unfold Hid worldB
            rw [h3];simp
          go_wp2
          go_ret
          exact ⟨by rw [HR.out];rfl,hB⟩
        | true =>
          have kw0:wh3.cell? ⟨w.heap.size,0,none⟩=some (.slice aan d.ns.length ccn):=cell_of_row wh3 _ 0 _ _ _ hx
          have kw1:wh3.cell? ⟨w.heap.size,1,none⟩=some (.slice aai d.is.length cci):=cell_of_row wh3 _ 1 _ _ _ hx
          have kw2:wh3.cell? ⟨w.heap.size,2,none⟩=some (.slice aaf d.ds.length ccf):=cell_of_row wh3 _ 2 _ _ _ hx
          have kw3:wh3.cell? ⟨w.heap.size,3,none⟩=some (.int .i64 d.pl):=cell_of_row wh3 _ 3 _ _ _ hx
          have kw4:wh3.cell? ⟨w.heap.size,4,none⟩=some (.slice aah d.hs.length cch):=cell_of_row wh3 _ 4 _ _ _ hx
          have kw5:wh3.cell? ⟨w.heap.size,5,none⟩=some (.slice aal d.ls.length ccl):=cell_of_row wh3 _ 5 _ _ _ hx
          have kw6:wh3.cell? ⟨w.heap.size,6,none⟩=some (.slice aag d.gs.length ccg):=cell_of_row wh3 _ 6 _ _ _ hx
          have kw7:wh3.cell? ⟨w.heap.size,7,none⟩=some (.slice aap d.ps.length ccp):=cell_of_row wh3 _ 7 _ _ _ hx
          have kw8:wh3.cell? ⟨w.heap.size,8,none⟩=some (.int .i64 d.nx):=cell_of_row wh3 _ 8 _ _ _ hx
          have kw9:wh3.cell? ⟨w.heap.size,9,none⟩=some (.slice aaa d.ga.length cca):=cell_of_row wh3 _ 9 _ _ _ hx
          have kw10:wh3.cell? ⟨w.heap.size,10,none⟩=some (.slice aat d.tk.length cct):=cell_of_row wh3 _ 10 _ _ _ hx
          go_wp2_with fail
          clear kw0 kw1 kw2 kw3 kw4 kw5 kw6 kw7 kw8 kw9 kw10
          refine (Zls _ _ _ _ _ _ _ _ _ d B _ (R0.below hB) hpl.1 hpl.2).mono ?_
          rintro e wh4 ⟨rfl,hb⟩
          replace hx:=Zae hx hb
          replace hB:=hB.trans (hb.mono hB.size)
          clear hb
          obtain ⟨bh4,h4⟩:∃ b,lksB d=b:=⟨_,rfl⟩
          rw [h4]
          cases bh4 with
          | false =>
            have HR:Hid (worldB d=false):=by
              unfold Hid worldB
              rw [h4];simp
            go_wp2
            go_ret
            exact ⟨by rw [HR.out];rfl,hB⟩
          | true =>
            have kw0:wh4.cell? ⟨w.heap.size,0,none⟩=some (.slice aan d.ns.length ccn):=cell_of_row wh4 _ 0 _ _ _ hx
            have kw1:wh4.cell? ⟨w.heap.size,1,none⟩=some (.slice aai d.is.length cci):=cell_of_row wh4 _ 1 _ _ _ hx
            have kw2:wh4.cell? ⟨w.heap.size,2,none⟩=some (.slice aaf d.ds.length ccf):=cell_of_row wh4 _ 2 _ _ _ hx
            have kw3:wh4.cell? ⟨w.heap.size,3,none⟩=some (.int .i64 d.pl):=cell_of_row wh4 _ 3 _ _ _ hx
            have kw4:wh4.cell? ⟨w.heap.size,4,none⟩=some (.slice aah d.hs.length cch):=cell_of_row wh4 _ 4 _ _ _ hx
            have kw5:wh4.cell? ⟨w.heap.size,5,none⟩=some (.slice aal d.ls.length ccl):=cell_of_row wh4 _ 5 _ _ _ hx
            have kw6:wh4.cell? ⟨w.heap.size,6,none⟩=some (.slice aag d.gs.length ccg):=cell_of_row wh4 _ 6 _ _ _ hx
            have kw7:wh4.cell? ⟨w.heap.size,7,none⟩=some (.slice aap d.ps.length ccp):=cell_of_row wh4 _ 7 _ _ _ hx
            have kw8:wh4.cell? ⟨w.heap.size,8,none⟩=some (.int .i64 d.nx):=cell_of_row wh4 _ 8 _ _ _ hx
            have kw9:wh4.cell? ⟨w.heap.size,9,none⟩=some (.slice aaa d.ga.length cca):=cell_of_row wh4 _ 9 _ _ _ hx
            have kw10:wh4.cell? ⟨w.heap.size,10,none⟩=some (.slice aat d.tk.length cct):=cell_of_row wh4 _ 10 _ _ _ hx
            go_wp2_with fail
            clear kw0 kw1 kw2 kw3 kw4 kw5 kw6 kw7 kw8 kw9 kw10
            refine (Zk9 _ _ _ _ _ _ _ _ _ d B _ (R0.below hB) hpl.1 hpl.2).mono ?_
            rintro e wh5 ⟨rfl,hb⟩
            replace hx:=Zae hx hb
            replace hB:=hB.trans (hb.mono hB.size)
            clear hb
            obtain ⟨bh5,h5⟩:∃ b,((d.gs.all (gmB d.pl) && d.ps.all (pdB d.pl)) && (decide (d.gs.length ≤ 12) && decide (d.ps.length ≤ 20)))=b:=⟨_,rfl⟩
            rw [h5]
            cases bh5 with
            | false =>
              have HR:Hid (worldB d=false):=by
                unfold Hid worldB
                cases q1:d.gs.all (gmB d.pl) <;> cases q2:d.ps.all (pdB d.pl) <;> cases q3:decide (d.gs.length ≤ 12) <;> cases q4:decide (d.ps.length ≤ 20) <;> simp [q1,q2,q3,q4] at h5 ⊢
              go_wp2
              go_ret
              exact ⟨by rw [HR.out];rfl,hB⟩
            | true =>
              have HR:Hid (worldB d=true):=by unfold Hid worldB;have q2:ZdP d.pl=true:=h2;simp only [Bool.and_eq_true] at h5;obtain ⟨⟨g1,g2⟩,g3,g4⟩:=h5;rw [h1,h4,q2,pid_in h7,h3,g1,g2,g3,g4];rfl
              go_wp2
              go_ret
              exact ⟨by rw [HR.out];rfl,hB⟩
end Go.Proofs.YtfeodlbpnghakaaGreatDoor
/-
  What the judges answer: plain mathematics. No condition.
-/
namespace Go.Proofs.YtfeodlbpnghakaaGreatDoor
open Go.RowKit
def allN (f:Nat → Bool):Nat → Nat → Bool
  | 0,_=>true
  | n+1,i=>f i && allN f n (i+1)
def ordAt (d:Wd)(i:Nat):Bool:=eqTs (d.tk.getD i []) ((d.ga.getD i []).take (d.tk.getD i []).length)
def ordB (d:Wd):Bool:=allN (ordAt d) d.ls.length 0
def hAt (h:List Pc)(ts:List ByteArray):Bool:=h.all fun p=>p.s.toList == (ts.getD p.n.toNat ⟨#[]⟩).toList
def qAt (l:Lk)(ts:List ByteArray):Bool:=eqTs l.q (ts.drop l.acked.toNat)
def hqAt (l:Lk)(ts:List ByteArray):Bool:=hAt l.h ts && qAt l ts
def quAt (d:Wd)(i:Nat):Bool:=match d.ls[i]? with
  | some l=>hqAt l (d.ga.getD i [])
  | none=>true
def queB (d:Wd):Bool:=allN (quAt d) d.ls.length 0
structure LkAll (d:Wd):Prop where
  lg:d.ga.length=d.ls.length
  lt:d.tk.length=d.ls.length
  at':∀ (k:Nat) (l:Lk),d.ls[k]? = some l → Zbi l=true ∧ (((d.ga.getD k []).length:Int)=l.sent) ∧ (((d.tk.getD k []).length:Int)=l.got)
theorem lkAll_of {d:Wd}(h:worldB d=true):LkAll d:=by
  have hl:lksB d=true:=by
    unfold worldB at h
    simp only [Bool.and_eq_true] at h
    exact h.2.2.1
  unfold lksB at hl
  simp only [Bool.and_eq_true,decide_eq_true_eq] at hl
  obtain ⟨⟨h1,h2,h3⟩,h4⟩:=hl
  refine ⟨by omega,by omega,fun k l hk=>?_⟩
  have hm:(l,k) ∈ d.ls.zipIdx:=List.mem_of_getElem? (Zla hk)
  have:=List.all_eq_true.1 h4 _ hm
  unfold lkB at this
  simp only [Bool.and_eq_true,decide_eq_true_eq] at this
  exact ⟨this.1,this.2.1,this.2.2⟩
theorem LkAll.ts {d:Wd}(L:LkAll d){k:Nat}{l:Lk}{ts:List ByteArray}(hl:d.ls[k]? = some l)(ht:d.ga[k]? = some ts):Zbi l=true ∧ (ts.length:Int)=l.sent:=by
  obtain ⟨h1,h2,_⟩:=L.at' k l hl
  rw [List.getD_eq_getElem?_getD,ht] at h2
  exact ⟨h1,h2⟩
def mvs (d:Wd)(ts:List ByteArray):List Int:=(ts.map (movN d.ns d.is d.ds)).filter (· ≠ 0)
def wayP (d:Wd):Nat → Nat → List Int
  | 0,_=>[]
  | n+1,i=>mvs d (wayT d i) ++ wayP d n (i+1)
theorem wayP_step {d:Wd}{m k:Nat}(hk:k < m):wayP d (m - k) k=mvs d (wayT d k) ++ wayP d (m - (k+1)) (k+1):=by
  obtain ⟨n,hn⟩:∃ n,m - k=n+1:=⟨m - k - 1,by omega⟩
  rw [hn,wayP,show m - (k+1)=n by omega]
theorem wayP_end {d:Wd}{m k:Nat}(hk:m ≤ k):wayP d (m - k) k=[]:=by
  rw [show m - k=0 by omega,wayP]
theorem mvs_step {d:Wd}{ts:List ByteArray}{j:Nat}{s:ByteArray}(h:ts[j]? = some s):mvs d (ts.drop j)=(if movN d.ns d.is d.ds s=0 then [] else [movN d.ns d.is d.ds s]) ++ mvs d (ts.drop (j+1)):=by
  obtain ⟨hl,rfl⟩:=List.getElem?_eq_some_iff.1 h
  rw [List.drop_eq_getElem_cons hl]
  unfold mvs
  rw [List.map_cons,List.filter_cons]
  by_cases h0:movN d.ns d.is d.ds ts[j]=0
  · simp [h0]
  · simp [h0]
theorem mvs_end {d:Wd}{ts:List ByteArray}{j:Nat}(h:ts.length ≤ j):mvs d (ts.drop j)=[]:=by
  rw [List.drop_eq_nil_of_le h]
  rfl
def pidL (d:Wd):List Int:=d.hs.map Hm.i ++ wayP d d.ls.length 0
def okP (d:Wd)(p:Int):Bool:=!(decide (p < d.nx)) || decide ((pidL d).count p ≤ 1)
def oneB (d:Wd):Bool:=(pidL d).all (okP d)
theorem oneB_parts (d:Wd):oneB d=((d.hs.map Hm.i).all (okP d) && (wayP d d.ls.length 0).all (okP d)):=by
  unfold oneB pidL
  rw [List.all_append]
theorem nodup_count {l:List Int}:l.Nodup ↔ ∀ a,l.count a ≤ 1:=by
  induction l with
  | nil=>simp
  | cons x l ih =>
    rw [List.nodup_cons,ih]
    constructor
    · rintro ⟨h1,h2⟩ a
      rw [List.count_cons]
      by_cases e:x=a
      · subst e
        rw [List.count_eq_zero.2 h1]
        simp
      · have:=h2 a
        simp [e]
        exact this
    · intro h
      refine ⟨fun hm=>?_,fun a=>?_⟩
      · have h1:=h x
        rw [List.count_cons] at h1
        have h2:=List.count_pos_iff.2 hm
        simp only [beq_self_eq_true,if_true] at h1
        omega
      · have:=h a
        rw [List.count_cons] at this
        omega
theorem count_filter' {p:Int → Bool}{a:Int}(l:List Int):(l.filter p).count a=if p a then l.count a else 0:=by
  by_cases h:p a=true
  · rw [if_pos h,List.count_filter h]
  · rw [if_neg h]
    exact List.count_eq_zero.2 (fun hm=>h (List.mem_filter.1 hm).2)
theorem oneB_nodup (d:Wd):oneB d=true ↔ ((pidL d).filter fun x=>!decide (d.nx ≤ x)).Nodup:=by
  rw [nodup_count]
  unfold oneB
  rw [List.all_eq_true]
  constructor
  · intro h a
    rw [count_filter']
    split
    · rename_i ha
      by_cases hm:a ∈ pidL d
      · have:=h a hm
        unfold okP at this
        simp at ha this
        omega
      · rw [List.count_eq_zero.2 hm]
        omega
    · omega
  · intro h a hm
    have:=h a
    rw [count_filter'] at this
    unfold okP
    by_cases hn:a < d.nx
    · have hb:(!decide (d.nx ≤ a))=true:=by simp;omega
      rw [if_pos hb] at this
      simp [this]
    · simp [hn]
theorem compact_nodup {l:List Int}(hs:l.Pairwise (· ≤ ·)):(Lib.compact l).length=l.length ↔ l.Nodup:=by
  have hcount:(Lib.compact l).length=((List.range l.length).filter (Lib.keeps l.toArray)).length:=by
    unfold Lib.compact Lib.compactUpTo
    rw [List.length_map]
  have hle:=List.length_filter_le (Lib.keeps l.toArray) (List.range l.length)
  rw [hcount]
  have hall:((List.range l.length).filter (Lib.keeps l.toArray)).length=l.length ↔ ∀ j,j < l.length → Lib.keeps l.toArray j=true:=by
    have:=@List.length_filter_eq_length_iff _ (Lib.keeps l.toArray) (List.range l.length)
    rw [List.length_range] at this
    rw [this]
    constructor
    · intro h j hj
      exact h j (List.mem_range.2 hj)
    · intro h j hj
      exact h j (List.mem_range.1 hj)
  rw [hall]
  have hget:∀ j,j < l.length → l.toArray[j]! = l[j]!:=fun j hj=>by simp
  constructor
  · intro h
    rw [List.Nodup,List.pairwise_iff_getElem]
    intro i j hi hj hij he
    have hp:=List.pairwise_iff_getElem.1 hs
    have h1:l[i] ≤ l[j - 1]'(by omega):=by
      by_cases e:i=j - 1
      · subst e;exact Int.le_refl _
      · exact hp i (j - 1) hi (by omega) (by omega)
    have h2:l[j - 1]'(by omega) ≤ l[j]:=hp (j - 1) j (by omega) hj (by omega)
    have hk:=h j hj
    unfold Lib.keeps at hk
    simp only [decide_eq_true_eq] at hk
    rcases hk with hk | hk
    · omega
    · apply hk
      have g1:l.toArray[j]! = l[j]:=by simp [getElem!_pos,hj]
      have g2:l.toArray[j - 1]! = l[j - 1]'(by omega):=by rw [getElem!_pos _ _ (by simp;omega)];simp
      rw [g1,g2]
      omega
  · intro h j hj
    unfold Lib.keeps
    simp only [decide_eq_true_eq]
    by_cases h0:j=0
    · exact Or.inl h0
    · right
      intro he
      rw [List.Nodup,List.pairwise_iff_getElem] at h
      simp [getElem!_pos,hj,show j - 1 < l.length by omega] at he
      exact h (j - 1) j (by omega) hj (by omega) he.symm
theorem once_eq (d:Wd)(F:List Int)(hF:F=(pidL d).filter fun x=>!decide (d.nx ≤ x)):(((Lib.compact (F.mergeSort fun x y=>decide (x ≤ y))).length:Int) == (F.length:Int))=oneB d:=by
  have hp:=List.mergeSort_perm F (fun x y=>decide (x ≤ y))
  have hs:(F.mergeSort fun x y=>decide (x ≤ y)).Pairwise (· ≤ ·):=by
    have:=List.pairwise_mergeSort (le:=fun x y:Int=>decide (x ≤ y)) (by intro a b c;simp;omega) (by intro a b;simp;omega) F
    exact this.imp (by intro a b h;simpa using h)
  have hc:=compact_nodup hs
  rw [hp.length_eq] at hc
  have hn:(F.mergeSort fun x y=>decide (x ≤ y)).Nodup ↔ F.Nodup:=hp.nodup_iff
  have h1:=oneB_nodup d
  rw [← hF] at h1
  rw [Bool.eq_iff_iff,h1,← hn,← hc]
  simp
  omega
end Go.Proofs.YtfeodlbpnghakaaGreatDoor
/-
  Contracts of impl's holdsOf and waysHoldGiven and of spec's JudgeQueue. Of a world that is right.
-/
namespace Go.Proofs.YtfeodlbpnghakaaGreatDoor
open Go.RowKit
end Go.Proofs.YtfeodlbpnghakaaGreatDoor
/-
  Contract of the laws' sameTexts, and what is read of the first of them. No condition.
-/
namespace Go.Proofs.YtfeodlbpnghakaaGreatDoor
open Go.RowKit
end Go.Proofs.YtfeodlbpnghakaaGreatDoor
/-
  Contracts of impl's tookInOrder and spec's JudgeOrder. Of a world that is right; the variable errors.errorType is not read by these.
-/
namespace Go.Proofs.YtfeodlbpnghakaaGreatDoor
open Go.RowKit
end Go.Proofs.YtfeodlbpnghakaaGreatDoor
/-
  The tables of numbers of the library functions slices.DeleteFunc, slices.Sort and slices.Compact at this program.
-/
namespace Go.Proofs
open Go.Shelf
def Tryz.laysNm220_ren:Go.Shelf.Ren:=⟨fun | 20=>60 | n=>n,fun | 22=>129 | 3=>3 | 4=>4 | 0=>0 | n=>n,fun | n=>n⟩
theorem Tryz.laysNm220:Go.Proofs.Lays2.n20 Tryz.prog Tryz.laysNm220_ren:={
  mixed:=by kernel_rfl
  f20:=Tryz.func60.trans (congrArg some (by kernel_rfl))
  t0:=Tryz.underlying0
  a0:=Tryz.isAgg0
  z0:=Tryz.sizeOf0
  v0:=Tryz.zeroValue0
  t3:=Tryz.underlying3
  a3:=Tryz.isAgg3
  z3:=Tryz.sizeOf3
  v3:=Tryz.zeroValue3
  t4:=Tryz.underlying4
  a4:=Tryz.isAgg4
  z4:=Tryz.sizeOf4
  v4:=Tryz.zeroValue4
  t22:=Tryz.underlying129
  a22:=Tryz.isAgg129
  z22:=Tryz.sizeOf129
  v22:=Tryz.zeroValue129
  i3:=by kernel_rfl }
def Tryz.laysNm189_ren:Go.Shelf.Ren:=⟨fun | 189=>59 | 125=>102 | 257=>101 | 128=>141 | 129=>142 | 294=>132 | 295=>133 | 296=>134 | 297=>135 | 298=>136 | 299=>137 | 216=>138 | 300=>139 | 301=>140 | 328=>165 | 329=>166 | 330=>167 | 331=>168 | 332=>169 | 215=>170 | 343=>197 | n=>n,fun | 28=>129 | 3=>3 | 46=>182 | 0=>0 | 51=>219 | 53=>221 | 4=>4 | 183=>212 | 182=>211 | 131=>178 | 5=>5 | 9=>9 | 218=>243 | 222=>233 | 228=>273 | 229=>274 | n=>n,fun | n=>n⟩
theorem Tryz.laysNm189:Go.Proofs.Lays.n189 Tryz.prog Tryz.laysNm189_ren:={
  mixed:=by kernel_rfl
  f125:=Tryz.func102.trans (congrArg some (by kernel_rfl))
  f128:=Tryz.func141.trans (congrArg some (by kernel_rfl))
  f129:=Tryz.func142.trans (congrArg some (by kernel_rfl))
  f189:=Tryz.func59.trans (congrArg some (by kernel_rfl))
  f215:=Tryz.func170.trans (congrArg some (by kernel_rfl))
  f216:=Tryz.func138.trans (congrArg some (by kernel_rfl))
  f257:=Tryz.func101.trans (congrArg some (by kernel_rfl))
  f294:=Tryz.func132.trans (congrArg some (by kernel_rfl))
  f295:=Tryz.func133.trans (congrArg some (by kernel_rfl))
  f296:=Tryz.func134.trans (congrArg some (by kernel_rfl))
  f297:=Tryz.func135.trans (congrArg some (by kernel_rfl))
  f298:=Tryz.func136.trans (congrArg some (by kernel_rfl))
  f299:=Tryz.func137.trans (congrArg some (by kernel_rfl))
  f300:=Tryz.func139.trans (congrArg some (by kernel_rfl))
  f301:=Tryz.func140.trans (congrArg some (by kernel_rfl))
  f328:=Tryz.func165.trans (congrArg some (by kernel_rfl))
  f329:=Tryz.func166.trans (congrArg some (by kernel_rfl))
  f330:=Tryz.func167.trans (congrArg some (by kernel_rfl))
  f331:=Tryz.func168.trans (congrArg some (by kernel_rfl))
  f332:=Tryz.func169.trans (congrArg some (by kernel_rfl))
  f343:=Tryz.func197.trans (congrArg some (by kernel_rfl))
  t0:=Tryz.underlying0
  a0:=Tryz.isAgg0
  z0:=Tryz.sizeOf0
  v0:=Tryz.zeroValue0
  t3:=Tryz.underlying3
  a3:=Tryz.isAgg3
  z3:=Tryz.sizeOf3
  v3:=Tryz.zeroValue3
  t4:=Tryz.underlying4
  a4:=Tryz.isAgg4
  z4:=Tryz.sizeOf4
  v4:=Tryz.zeroValue4
  t5:=Tryz.underlying5
  a5:=Tryz.isAgg5
  z5:=Tryz.sizeOf5
  v5:=Tryz.zeroValue5
  t9:=Tryz.underlying9
  a9:=Tryz.isAgg9
  z9:=Tryz.sizeOf9
  v9:=Tryz.zeroValue9
  t28:=Tryz.underlying129
  a28:=Tryz.isAgg129
  z28:=Tryz.sizeOf129
  v28:=Tryz.zeroValue129
  t46:=Tryz.underlying182
  a46:=Tryz.isAgg182
  z46:=Tryz.sizeOf182
  v46:=Tryz.zeroValue182
  t51:=Tryz.underlying219
  a51:=Tryz.isAgg219
  z51:=Tryz.sizeOf219
  v51:=Tryz.zeroValue219
  t53:=Tryz.underlying221
  a53:=Tryz.isAgg221
  z53:=Tryz.sizeOf221
  v53:=Tryz.zeroValue221
  t131:=Tryz.underlying178
  a131:=Tryz.isAgg178
  z131:=Tryz.sizeOf178
  v131:=Tryz.zeroValue178
  t182:=Tryz.underlying211
  a182:=Tryz.isAgg211
  z182:=Tryz.sizeOf211
  v182:=Tryz.zeroValue211
  t183:=Tryz.underlying212
  a183:=Tryz.isAgg212
  z183:=Tryz.sizeOf212
  v183:=Tryz.zeroValue212
  t218:=Tryz.underlying243
  a218:=Tryz.isAgg243
  z218:=Tryz.sizeOf243
  v218:=Tryz.zeroValue243
  t222:=Tryz.underlying233
  a222:=Tryz.isAgg233
  z222:=Tryz.sizeOf233
  v222:=Tryz.zeroValue233
  t228:=Tryz.underlying273
  a228:=Tryz.isAgg273
  z228:=Tryz.sizeOf273
  v228:=Tryz.zeroValue273
  t229:=Tryz.underlying274
  a229:=Tryz.isAgg274
  z229:=Tryz.sizeOf274
  v229:=Tryz.zeroValue274 }
def Tryz.laysDel_ren:Go.Shelf.Ren:=⟨fun | 10=>56 | 6=>98 | n=>n,fun | 22=>129 | 23=>3 | 25=>132 | 3=>3 | 4=>4 | 0=>0 | n=>n,fun | n=>n⟩
theorem Tryz.laysDel:Go.Proofs.SlLaysH.n10 Tryz.prog Tryz.laysDel_ren:={
  mixed:=by kernel_rfl
  f6:=⟨Tryz.f98.name,by decide,Tryz.func98.trans (congrArg some (by kernel_rfl))⟩
  f10:=⟨Tryz.f56.name,by decide,Tryz.func56.trans (congrArg some (by kernel_rfl))⟩
  t0:=Tryz.underlying0
  a0:=Tryz.isAgg0
  z0:=Tryz.sizeOf0
  v0:=Tryz.zeroValue0
  t3:=Tryz.underlying3
  a3:=Tryz.isAgg3
  z3:=Tryz.sizeOf3
  v3:=Tryz.zeroValue3
  t4:=Tryz.underlying4
  a4:=Tryz.isAgg4
  z4:=Tryz.sizeOf4
  v4:=Tryz.zeroValue4
  t22:=Tryz.underlying129
  a22:=Tryz.isAgg129
  z22:=Tryz.sizeOf129
  v22:=Tryz.zeroValue129
  a23:=Tryz.isAgg3
  z23:=Tryz.sizeOf3
  t25:=Tryz.underlying132
  a25:=Tryz.isAgg132
  z25:=Tryz.sizeOf132
  v25:=Tryz.zeroValue132 }
end Go.Proofs
