/-
  Texts that stood by themselves, laid into one.
-/
import Derived.Test.YtkpfangkfknhoaaGreatDoorJgRM
import Derived.Test.YtkpfangkfknhoaaGreatDoorJgMM
import Derived.Test.YtkpfangkfknhoaaGreatDoorInM
import Derived.Shelf.SlGeneric
import Derived.Shelf.Sort.Plain
import Derived.Shelf.Slices.CompactI
import Derived.Shelf.SlicesE.DeleteFunc
import Derived.Ground.SlgfProg
import Derived.Test.YtkpfangkfknhoaaGreatDoorProg
/-
  Contracts of impl's holdsOf and waysHoldGiven and of spec's JudgeQueue. Of a world that is right.
-/
set_option maxRecDepth 100000
set_option maxHeartbeats 3200000
namespace Go.Proofs.YtkpfangkfknhoaaGreatDoor
open Go.RowKit
theorem hAt_step {h:List Pc}{ts:List ByteArray}{j:Nat}{x:Pc}{y:ByteArray}{n:Nat}(hx:h[j]? = some x)(hn:x.n=n)(hy:ts[n]? = some y):hAt (h.drop j) ts=((x.s.toList == y.toList) && hAt (h.drop (j+1)) ts):=by
  obtain ⟨hl,rfl⟩:=List.getElem?_eq_some_iff.1 hx
  unfold hAt
  rw [List.drop_eq_getElem_cons hl,List.all_cons,hn,List.getD_eq_getElem?_getD,show ((n:Int)).toNat=n by omega,hy]
  rfl
theorem hAt_end {h:List Pc}{ts:List ByteArray}{j:Nat}(hj:h.length ≤ j):hAt (h.drop j) ts=true:=by
  rw [List.drop_eq_nil_of_le hj]
  rfl
theorem iholdsof_any (vq vh va:Value)(l:Lk)(ts:List ByteArray)(w:World)(R1:StRow w vq l.q)(R2:PcRow w vh l.h)(RA:StRow w va ts)(hlk:Za4 l=true)(hsn:(ts.length:Int)=l.sent) :
    Calls Tryz.prog 60 #[.agg #[.int .i64 l.sent,.int .i64 l.acked,vq,.int .i64 l.got,vh],va] w fun e w'=>e=.returned (.bool (hqAt l ts)) ∧ Below w.heap.size w w':=by
  obtain ⟨pq,qq,rfl⟩:=R1.small
  obtain ⟨pa,qa,rfl⟩:=RA.small
  have hno:=Zng hlk
  have hnum:=Za7 hlk
  have hB0:=Zap w (Obj.cells #[.int .i64 l.sent,.int .i64 l.acked,.slice pq l.q.length qq,.int .i64 l.got,vh] 107)
  have hcA:(ts.length ≤ qa ∧ (pa=none → qa=0)) ∧ ts.length ≤ 9223372036854775807:=by
    obtain ⟨ao,cap,e,hc,hm,_⟩:=RA
    simp only [Value.slice.injEq] at e
    obtain ⟨rfl,_,rfl⟩:=e
    exact ⟨hc,hm⟩
  have RA0:=RA
  have R10:=R1
  obtain ⟨aoa,capa,e,_,_,_,hcA2⟩:=RA
  simp only [Value.slice.injEq] at e
  obtain ⟨rfl,_,rfl⟩:=e
  obtain ⟨ph,qh,rfl,hcap,hm,hz,hcell⟩:=R2
  have hx0:=heap_alloc_new w (Obj.cells #[.int .i64 l.sent,.int .i64 l.acked,.slice pq l.q.length qq,.int .i64 l.got,.slice ph l.h.length qh] 107)
  have HV:Hid (hqAt l ts=(hAt (l.h.drop 0) ts && qAt l ts)):=rfl
  have NO:Hid (∀ p ∈ l.h,0 ≤ p.n ∧ p.n < (ts.length:Int)):=by intro p hp;rw [hsn];exact hno p hp
  have NU:Hid (0 ≤ l.acked ∧ l.acked ≤ (ts.length:Int)):=by unfold Hid;rw [hsn];omega
  clear hno hnum hlk hsn R1
  have k4:=cell_of_row _ _ 4 _ _ _ hx0
  go_enter Tryz.func60,Tryz.ntmps60
  go_wp2_with fail
  generalize w.alloc (Obj.cells #[.int .i64 l.sent,.int .i64 l.acked,.slice pq l.q.length qq,.int .i64 l.got,.slice ph l.h.length qh] 107)=w0 at *
  go_loopw [10] (fun i wr=>∃ j:Nat,j ≤ l.h.length ∧ i=.int .i64 j ∧ Hid (hqAt l ts=(hAt (l.h.drop j) ts && qAt l ts)) ∧ Below w0.heap.size w0 wr) (fun i _=>l.h.length - (intOf i).toNat)
  case atStart=>exact ⟨0,by omega,rfl,HV,Below.refl _ _⟩
  case round =>
    clear HV k4
    obtain ⟨j,hj,rfl,HK,hb⟩:=hrel
    have hB:=hB0.trans (hb.mono hB0.size)
    by_cases hlt:j < l.h.length
    · obtain ⟨g,o,rfl,hg,hcell⟩:=hcell (by intro e;rw [e] at hlt;simp at hlt)
      obtain ⟨x,hx⟩:∃ x,l.h[j]? = some x:=⟨l.h[j],by simp [hlt]⟩
      obtain ⟨k0,k1⟩:=(hcell j x hx).below hB hg
      obtain ⟨n0,n1⟩:=NO.out x (List.mem_of_getElem? hx)
      obtain ⟨n,hn⟩:∃ n:Nat,x.n=n:=⟨x.n.toNat,by omega⟩
      have hnt:n < ts.length:=by omega
      have hni:(n:Int) < (ts.length:Int):=by omega
      obtain ⟨y,hy⟩:∃ y,ts[n]? = some y:=⟨ts[n],List.getElem?_eq_getElem _⟩
      have HS:Hid (hqAt l ts=(((x.s.toList == y.toList) && hAt (l.h.drop (j+1)) ts) && qAt l ts)):=by unfold Hid;rw [HK.out,hAt_step hx hn hy]
      obtain ⟨g2,o2,rfl,hg2,hcA2⟩:=hcA2 (by intro e;rw [e] at hnt;simp at hnt)
      have ky:=(hB.cell (p:=⟨g2,o2+n,none⟩) hg2).trans (hcA2 n y hy)
      have hg2':=Nat.lt_of_lt_of_le hg2 hB.size
      have hBn:=hB.alloc hB.size (Obj.cells #[.int .i64 x.n,.string x.s] 109)
      have hbn:=hb.alloc hb.size (Obj.cells #[.int .i64 x.n,.string x.s] 109)
      clear hcell hx hcA2 hy HK n0 n1 NO
      rw [hn] at k0 hBn hbn
      clear hn
      cases e:(x.s.toList == y.toList) with
      | true =>
        have HB:Hid (hqAt l ts=(hAt (l.h.drop (j+1)) ts && qAt l ts)):=by unfold Hid;rw [HS.out,e];rfl
        clear HS
        go_wp2
        go_quiet (fail)
        go_wp2
        go_roundw
        case rel=>exact ⟨j+1,by omega,by go_num,HB,hbn.trans ((Ze5 _ _).mono hbn.size)⟩
        case measure=>simp [intOf];omega
      | false =>
        have HB:Hid (hqAt l ts=false):=by unfold Hid;rw [HS.out,e];rfl
        clear HS
        go_wp2
        go_quiet (fail)
        go_wp2
        go_ret
        exact ⟨retB HB.out.symm,hBn.trans ((Ze5 _ _).mono hBn.size)⟩
    · have HB:Hid (hqAt l ts=qAt l ts):=by unfold Hid;rw [HK.out,hAt_end (by omega)];rfl
      have hx:=Zaa hx0 hb
      obtain ⟨a,ha⟩:∃ a:Nat,l.acked=a:=⟨l.acked.toNat,by have:=NU.out;omega⟩
      have hat:a ≤ ts.length:=by have:=NU.out;omega
      have HQ:Hid (qAt l ts=eqTs l.q (ts.drop a)):=by unfold Hid qAt;rw [ha,show ((a:Int)).toNat=a by omega]
      have RAr:=RA0.below hB
      have R1r:=R10.below hB
      obtain ⟨r,hr⟩:∃ r,qAt l ts=r:=⟨_,rfl⟩
      rw [hr] at HB HQ
      clear HK hcell hcA2 hr NO NU hx0
      by_cases hc:qa=a
      · obtain rfl:a=ts.length:=by have:=hcA.1.1;omega
        have HC:∀ W,Below wr.heap.size wr W → Calls Tryz.prog 54 #[.slice pq l.q.length qq,.slice pa 0 0] W fun e w'=>e=.returned (.bool r) ∧ Below W.heap.size W w':=by
          intro W hW
          rw [HQ.out]
          refine Zms _ _ l.q (ts.drop ts.length) W (R1r.below hW) ?_
          have:=ZfP (RAr.below hW) rfl ts.length ts.length (by omega) pa (ts.length - ts.length) (qa - ts.length) (Or.inl ⟨hc,rfl⟩) rfl rfl
          rw [show ts.length - ts.length=0 by omega,show qa - ts.length=0 by omega] at this
          exact this
        obtain rfl:=hc
        clear hcA RAr RA0 R1r R10
        go_wp2_with fail
        refine Zmz w.heap.size ts.length qq qh pa pq ph l r _ _ hx ha HC ?_
        intro u23 u24 u25 u26 u27 u28 u29 W hW
        have hBW:=hB.trans (hW.mono hB.size)
        clear hW HC hx
        go_wp2
        go_ret
        exact ⟨retB HB.out.symm,hBW⟩
      · have HC:∀ W,Below wr.heap.size wr W → Calls Tryz.prog 54 #[.slice pq l.q.length qq,.slice (pa.map fun x=>x.add a) (ts.length - a) (qa - a)] W fun e w'=>e=.returned (.bool r) ∧ Below W.heap.size W w':=by
          intro W hW
          rw [HQ.out]
          refine Zms _ _ l.q (ts.drop a) W (R1r.below hW) ?_
          have:=ZfP (RAr.below hW) rfl a a (by omega) (pa.map fun x=>x.add a) (ts.length - a) (qa - a) (Or.inr ⟨by have:=hcA.1.1;omega,rfl⟩) rfl rfl
          exact this
        go_wp2_with fail
        refine ZmT w.heap.size ts.length qa a qq qh pa pq ph l r _ _ hx ha hat hcA.1.1 (by have:=hcA.1.1;omega) HC ?_
        intro u23 u24 u25 u26 u27 u28 u29 W hW
        have hBW:=hB.trans (hW.mono hB.size)
        clear hW HC hx
        go_wp2
        go_ret
        exact ⟨retB HB.out.symm,hBW⟩
theorem iwayshold_any (vn vi vf vh vl vg vp va vt:Value)(d:Wd)(B:Nat)(w:World)(R:WR B w vn vi vf vh vl vg vp va vt d)(L:LkAll d) :
    Calls Tryz.prog 27 #[.agg #[vn,vi,vf,.int .i64 d.pl,vh,vl,vg,vp,.int .i64 d.nx,va,vt]] w fun e w'=>e=.returned (.bool (queB d)) ∧ Below w.heap.size w w':=by
  have R0:=R
  obtain ⟨⟨an,cn,rfl⟩,⟨ai,ci,rfl⟩,⟨af,cf,rfl⟩,⟨ah,ch,rfl⟩,⟨al,cl,rfl⟩,⟨ag,cg,rfl⟩,⟨ap,cp,rfl⟩,⟨aa,ca,rfl⟩,⟨ab,cb,rfl⟩⟩:=R.form
  clear R
  have hB0:=Zap w (Obj.cells #[.slice an d.ns.length cn,.slice ai d.is.length ci,.slice af d.ds.length cf,.int .i64 d.pl,.slice ah d.hs.length ch,.slice al d.ls.length cl,.slice ag d.gs.length cg,.slice ap d.ps.length cp,.int .i64 d.nx,.slice aa d.ga.length ca,.slice ab d.tk.length cb] 50)
  have hx0:=heap_alloc_new w (Obj.cells #[.slice an d.ns.length cn,.slice ai d.is.length ci,.slice af d.ds.length cf,.int .i64 d.pl,.slice ah d.hs.length ch,.slice al d.ls.length cl,.slice ag d.gs.length cg,.slice ap d.ps.length cp,.int .i64 d.nx,.slice aa d.ga.length ca,.slice ab d.tk.length cb] 50)
  obtain ⟨aoa,capa,hha,_,_,hcella⟩:=R0.ra
  simp only [Value.slice.injEq] at hha
  obtain ⟨rfl,_,rfl⟩:=hha
  obtain ⟨aol,capl,hhl,_,_,hcelll⟩:=R0.rl
  simp only [Value.slice.injEq] at hhl
  obtain ⟨rfl,_,rfl⟩:=hhl
  have HV:Hid (queB d=allN (quAt d) (d.ls.length - 0) 0):=by unfold Hid queB;rfl
  have hle:d.ls.length ≤ d.ga.length:=by have:=L.lg;omega
  have L0:Hid (LkAll d):=L
  clear L
  have k1:=cell_of_row _ _ 5 _ _ _ hx0
  go_enter Tryz.func27,Tryz.ntmps27
  go_wp2_with fail
  clear k1
  generalize w.alloc (Obj.cells #[.slice an d.ns.length cn,.slice ai d.is.length ci,.slice af d.ds.length cf,.int .i64 d.pl,.slice ah d.hs.length ch,.slice al d.ls.length cl,.slice ag d.gs.length cg,.slice ap d.ps.length cp,.int .i64 d.nx,.slice aa d.ga.length ca,.slice ab d.tk.length cb] 50)=w0 at *
  go_loopw [8] (fun i wr=>∃ k:Nat,k ≤ d.ls.length ∧ i=.int .i64 k ∧ Hid (queB d=allN (quAt d) (d.ls.length - k) k) ∧ Below w0.heap.size w0 wr) (fun i _=>d.ls.length - (intOf i).toNat)
  case atStart=>exact ⟨0,by omega,rfl,HV,Below.refl _ _⟩
  case round =>
    clear HV
    obtain ⟨k,hk,rfl,HK,hb⟩:=hrel
    have hB:=hB0.trans (hb.mono hB0.size)
    have hx:=Zaa hx0 hb
    clear hx0
    by_cases hlt:k < d.ls.length
    · have h2:k < d.ga.length:=by omega
      obtain ⟨ga,oa,rfl,_,hga,hcella⟩:=hcella (by intro e;rw [e] at h2;simp at h2)
      obtain ⟨gl,ol,rfl,_,hgl,hcelll⟩:=hcelll (by intro e;rw [e] at hlt;simp at hlt)
      obtain ⟨l,hl⟩:∃ x,d.ls[k]? = some x:=⟨d.ls[k],List.getElem?_eq_getElem _⟩
      obtain ⟨ts,hta⟩:∃ x,d.ga[k]? = some x:=⟨d.ga[k],List.getElem?_eq_getElem _⟩
      obtain ⟨cs,hcs,hr,vq,vh',hc,L1,L2,_,_⟩:=hcelll k l hl
      obtain ⟨_,_,hra,ua,rfl,A1,_⟩:=hcella k ts hta
      obtain ⟨pq,qq,rfl⟩:=L1.small
      obtain ⟨ph,qh,rfl⟩:=L2.small
      obtain ⟨pa,qa,rfl⟩:=A1.small
      obtain rfl:cs=(#[.int .i64 l.sent,.int .i64 l.acked,.slice pq l.q.length qq,.int .i64 l.got,.slice ph l.h.length qh]:Array Value).toList:=congrArg Array.toList hc
      obtain ⟨hlk,hsn⟩:=L0.out.ts hl hta
      have HS:Hid (queB d=(hqAt l ts && allN (quAt d) (d.ls.length - (k+1)) (k+1))):=by unfold Hid;rw [HK.out,ZmU hlt,Zm3 hl hta]
      replace hr:=Zaf hr hB hgl
      have ka:=ZaT (Zaf hra hB hga)
      rw [Nat.mul_one] at ka
      have hgl':=Nat.lt_of_lt_of_le hgl hB.size
      have hga':=Nat.lt_of_lt_of_le hga hB.size
      have L1':=L1.below hB
      have L2':=L2.below hB
      have A1':=A1.below hB
      clear hcelll hcella hl hta hc hcs hra HK L1 L2 A1
      have hb3:=Zap wr (Obj.cells #[.int .i64 l.sent,.int .i64 l.acked,.slice pq l.q.length qq,.int .i64 l.got,.slice ph l.h.length qh] 107)
      have hh3:(wr.alloc (Obj.cells #[.int .i64 l.sent,.int .i64 l.acked,.slice pq l.q.length qq,.int .i64 l.got,.slice ph l.h.length qh] 107)).heap[wr.heap.size]? = some (Obj.cells #[.int .i64 l.sent,.int .i64 l.acked,.slice pq l.q.length qq,.int .i64 l.got,.slice ph l.h.length qh] 107):=heap_alloc_new _ _
      have hx3:=Zaa hx hb3
      have hB3:=hB.trans (hb3.mono hB.size)
      have hbR:=hb.trans (hb3.mono hb.size)
      have ka3:=(hb3.cell (p:=⟨ga,oa+k,none⟩) hga').trans ka
      have L13:=L1'.below hb3
      have L23:=L2'.below hb3
      have A13:=A1'.below hb3
      have hga3:=Nat.lt_of_lt_of_le hga' hb3.size
      obtain ⟨W3,hW3⟩:∃ W3,Hid (wr.alloc (Obj.cells #[.int .i64 l.sent,.int .i64 l.acked,.slice pq l.q.length qq,.int .i64 l.got,.slice ph l.h.length qh] 107)=W3):=⟨_,rfl⟩
      go_wp2_with (refine wpList_load_mid rfl 107 _ rfl gl (ol+k * 5) rfl _ _ hr Tryz.underlying107 rfl (by kernel_rfl) ?_)
      rw [hW3.out] at hb3 hh3 hx3 hB3 hbR ka3 L13 L23 A13 hga3 ⊢
      have HC:∀ W,Below W3.heap.size W3 W → Calls Tryz.prog 60 #[.agg #[.int .i64 l.sent,.int .i64 l.acked,.slice pq l.q.length qq,.int .i64 l.got,.slice ph l.h.length qh],.slice pa ts.length qa] W fun e w'=>e=.returned (.bool (hqAt l ts)) ∧ Below W.heap.size W w':=fun W hW=>iholdsof_any _ _ _ l ts W (L13.below hW) (L23.below hW) (A13.below hW) hlk hsn
      obtain ⟨r,hr⟩:∃ r,hqAt l ts=r:=⟨_,rfl⟩
      rw [hr] at HS HC
      clear hW3 hr ka hx L13 L23 A13 hb3 hlk hsn L1' L2' A1'
      refine Zm2 w.heap.size wr.heap.size ga oa k ts.length qa qq qh pa pq ph an ai af ah (some ⟨gl,ol,none⟩) ag ap ab cn ci cf ch cl cg cp ca cb d l r W3 _ hx3 hh3 hga3 ka3 h2 HC ?_
      intro u13 u14 u15 u16 u17 u18 u19 W hW
      have hBW:=hB3.trans (hW.mono hB3.size)
      have hbW:=hbR.trans (hW.mono hbR.size)
      clear HC hW hx3 hh3 ka3
      cases r with
      | true =>
        have HB:Hid (queB d=allN (quAt d) (d.ls.length - (k+1)) (k+1)):=by unfold Hid;rw [HS.out];rfl
        clear HS
        go_wp2
        go_roundw
        case rel=>exact ⟨k+1,by omega,by go_num,HB,hbW⟩
        case measure=>simp [intOf];omega
      | false =>
        have HB:Hid (queB d=false):=by unfold Hid;rw [HS.out];rfl
        clear HS
        go_wp2
        go_ret
        exact ⟨retB HB.out.symm,hBW⟩
    · have HB:Hid (queB d=true):=by unfold Hid;rw [HK.out,ZmX (by omega)]
      clear HK hcella hcelll
      go_wp2
      go_ret
      exact ⟨retB HB.out.symm,hB⟩
theorem sjqueue_any (vn vi vf vh vl vg vp va vt:Value)(d:Wd)(B:Nat)(w:World)(R:WR B w vn vi vf vh vl vg vp va vt d)(hsm:∀ x ∈ d.hs,SmH x) :
    Calls Tryz.prog 17 #[.agg #[vn,vi,vf,.int .i64 d.pl,vh,vl,vg,vp,.int .i64 d.nx,va,vt]] w fun e w'=>e=.returned (.bool (Zaq d && queB d)) ∧ Below w.heap.size w w':=by
  have R0:=R
  obtain ⟨⟨an,cn,rfl⟩,⟨ai,ci,rfl⟩,⟨af,cf,rfl⟩,⟨ah,ch,rfl⟩,⟨al,cl,rfl⟩,⟨ag,cg,rfl⟩,⟨ap,cp,rfl⟩,⟨aa,ca,rfl⟩,⟨ab,cb,rfl⟩⟩:=R.form
  clear R
  have hB0:=Zap w (Obj.cells #[.slice an d.ns.length cn,.slice ai d.is.length ci,.slice af d.ds.length cf,.int .i64 d.pl,.slice ah d.hs.length ch,.slice al d.ls.length cl,.slice ag d.gs.length cg,.slice ap d.ps.length cp,.int .i64 d.nx,.slice aa d.ga.length ca,.slice ab d.tk.length cb] 50)
  have hx0:=heap_alloc_new w (Obj.cells #[.slice an d.ns.length cn,.slice ai d.is.length ci,.slice af d.ds.length cf,.int .i64 d.pl,.slice ah d.hs.length ch,.slice al d.ls.length cl,.slice ag d.gs.length cg,.slice ap d.ps.length cp,.int .i64 d.nx,.slice aa d.ga.length ca,.slice ab d.tk.length cb] 50)
  go_enter Tryz.func17,Tryz.ntmps17
  go_wp2_with (refine wpList_load_row rfl 50 _ rfl w.heap.size rfl 50 #[.slice an d.ns.length cn,.slice ai d.is.length ci,.slice af d.ds.length cf,.int .i64 d.pl,.slice ah d.hs.length ch,.slice al d.ls.length cl,.slice ag d.gs.length cg,.slice ap d.ps.length cp,.int .i64 d.nx,.slice aa d.ga.length ca,.slice ab d.tk.length cb] (0,0) _ hx0 Tryz.underlying50 rfl ZnQ ?_)
  refine (ZfE _ _ _ _ _ _ _ _ _ d B _ (R0.below hB0) hsm).mono ?_
  rintro e w1 ⟨rfl,hb⟩
  have hx1:=Zaa hx0 hb
  have hB1:=hB0.trans (hb.mono hB0.size)
  clear hb hx0 hB0
  cases hw:Zaq d with
  | false =>
    go_wp2
    go_ret
    exact ⟨retB (by rw [hw];rfl),hB1⟩
  | true =>
    have L:=Zcq hw
    have HW:Hid (Zaq d=true):=hw
    have HV:Hid (queB d=allN (quAt d) (d.ls.length - 0) 0):=by unfold Hid queB;rfl
    have hle:d.ls.length ≤ d.ga.length:=by have:=L.lg;omega
    have L0:Hid (LkAll d):=L
    clear L hw
    obtain ⟨aoa,capa,hha,_,_,hcella⟩:=R0.ra
    simp only [Value.slice.injEq] at hha
    obtain ⟨rfl,_,rfl⟩:=hha
    obtain ⟨aol,capl,hhl,_,_,hcelll⟩:=R0.rl
    simp only [Value.slice.injEq] at hhl
    obtain ⟨rfl,_,rfl⟩:=hhl
    have k1:=cell_of_row _ _ 9 _ _ _ hx1
    have k3:=cell_of_row _ _ 5 _ _ _ hx1
    have hs1:=Zao hx1
    go_wp2_with fail
    go_loopw [3] (fun i wr=>∃ k:Nat,k ≤ d.ls.length ∧ i=.int .i64 k ∧ Hid (queB d=allN (quAt d) (d.ls.length - k) k) ∧ Below w1.heap.size w1 wr) (fun i _=>d.ls.length - (intOf i).toNat)
    case atStart=>exact ⟨0,by omega,rfl,HV,Below.refl _ _⟩
    case round =>
      clear HV
      obtain ⟨k,hk,rfl,HK,hb⟩:=hrel
      have hB:=hB1.trans (hb.mono hB1.size)
      have hx:=Zaa hx1 hb
      have c5:=(hb.cell (p:=⟨w.heap.size,0+5,none⟩) hs1).trans k3
      by_cases hlt:k < d.ls.length
      · have h2:k < d.ga.length:=by omega
        have h2i:(k:Int) < (d.ga.length:Int):=by omega
        obtain ⟨ga,oa,rfl,_,hga,hcella⟩:=hcella (by intro e;rw [e] at h2;simp at h2)
        obtain ⟨gl,ol,rfl,_,hgl,hcelll⟩:=hcelll (by intro e;rw [e] at hlt;simp at hlt)
        obtain ⟨l,hl⟩:∃ x,d.ls[k]? = some x:=⟨d.ls[k],List.getElem?_eq_getElem _⟩
        obtain ⟨ts,hta⟩:∃ x,d.ga[k]? = some x:=⟨d.ga[k],List.getElem?_eq_getElem _⟩
        obtain ⟨cs,hcs,hr,vq,vh',hc,L1,L2,_,_⟩:=hcelll k l hl
        obtain ⟨_,_,hra,ua,rfl,A1,_⟩:=hcella k ts hta
        obtain ⟨pq,qq,rfl⟩:=L1.small
        obtain ⟨ph,qh,rfl⟩:=L2.small
        obtain ⟨pa,qa,rfl⟩:=A1.small
        obtain rfl:cs=(#[.int .i64 l.sent,.int .i64 l.acked,.slice pq l.q.length qq,.int .i64 l.got,.slice ph l.h.length qh]:Array Value).toList:=congrArg Array.toList hc
        obtain ⟨hlk,hsn⟩:=L0.out.ts hl hta
        have HS:Hid (queB d=(hqAt l ts && allN (quAt d) (d.ls.length - (k+1)) (k+1))):=by unfold Hid;rw [HK.out,ZmU hlt,Zm3 hl hta]
        replace hr:=Zaf hr hB hgl
        have ka:=ZaT (Zaf hra hB hga)
        rw [Nat.mul_one] at ka
        have hgl':=Nat.lt_of_lt_of_le hgl hB.size
        have hga':=Nat.lt_of_lt_of_le hga hB.size
        have L1':=L1.below hB
        have L2':=L2.below hB
        have A1':=A1.below hB
        clear hcelll hcella hl hta hc hcs hra HK L1 L2 A1
        obtain ⟨a,ha⟩:∃ a:Nat,l.acked=a:=⟨l.acked.toNat,by have:=Za7 hlk;omega⟩
        have hat:a+l.q.length=ts.length:=by have:=Za7 hlk;omega
        have htm:ts.length ≤ 100000:=by have:=Za7 hlk;omega
        have HQ:Hid (queB d=((hAt l.h ts && eqTs (l.q.drop 0) ((ts.drop a).drop 0)) && allN (quAt d) (d.ls.length - (k+1)) (k+1))):=by unfold Hid;rw [HS.out];unfold hqAt qAt;rw [ha,show ((a:Int)).toNat=a by omega];rfl
        have NO:Hid (∀ p ∈ l.h,0 ≤ p.n ∧ p.n < (ts.length:Int)):=by intro p hp;rw [hsn];exact Zng hlk p hp
        have HAT:Hid (a+l.q.length=ts.length):=hat
        have HA:Hid (l.acked=(a:Int)):=ha
        clear hlk hsn hat HS ha L0
        have hb3:=Zap wr (Obj.cells #[.int .i64 l.sent,.int .i64 l.acked,.slice pq l.q.length qq,.int .i64 l.got,.slice ph l.h.length qh] 107)
        have hh3:(wr.alloc (Obj.cells #[.int .i64 l.sent,.int .i64 l.acked,.slice pq l.q.length qq,.int .i64 l.got,.slice ph l.h.length qh] 107)).heap[wr.heap.size]? = some (Obj.cells #[.int .i64 l.sent,.int .i64 l.acked,.slice pq l.q.length qq,.int .i64 l.got,.slice ph l.h.length qh] 107):=heap_alloc_new _ _
        have hx3:=Zaa hx hb3
        have hB3:=hB.trans (hb3.mono hB.size)
        have hbR:=hb.trans (hb3.mono hb.size)
        have ka3:=(hb3.cell (p:=⟨ga,oa+k,none⟩) hga').trans ka
        have L13:=L1'.below hb3
        have L23:=L2'.below hb3
        have A13:=A1'.below hb3
        have hga3:=Nat.lt_of_lt_of_le hga' hb3.size
        obtain ⟨W3,hW3⟩:∃ W3,Hid (wr.alloc (Obj.cells #[.int .i64 l.sent,.int .i64 l.acked,.slice pq l.q.length qq,.int .i64 l.got,.slice ph l.h.length qh] 107)=W3):=⟨_,rfl⟩
        go_wp2_with (refine wpList_load_mid rfl 107 _ rfl gl (ol+k * 5) rfl _ _ hr Tryz.underlying107 rfl (by kernel_rfl) ?_)
        rw [hW3.out] at hb3 hh3 hx3 hB3 hbR ka3 L13 L23 A13 hga3 ⊢
        clear hW3 hr ka hx hb3 L1' L2' A1' c5 hb hB
        have hs3:=Zao hh3
        have hsw3:=Zao hx3
        obtain ⟨aoq,capq,eq',_,_,_,hcq⟩:=L13
        simp only [Value.slice.injEq] at eq'
        obtain ⟨rfl,_,rfl⟩:=eq'
        obtain ⟨aoh,caph,eh',_,_,_,hch⟩:=L23
        simp only [Value.slice.injEq] at eh'
        obtain ⟨rfl,_,rfl⟩:=eh'
        obtain ⟨aot,capt,et',_,_,_,hct⟩:=A13
        simp only [Value.slice.injEq] at et'
        obtain ⟨rfl,_,rfl⟩:=et'
        have d1:=cell_of_row _ _ 1 _ _ _ hh3
        have d2:=cell_of_row _ _ 2 _ _ _ hh3
        have d4:=cell_of_row _ _ 4 _ _ _ hh3
        have e9:=cell_of_row _ _ 9 _ _ _ hx3
        rw [HA.out] at d1
        obtain ⟨bL,hbL⟩:∃ bL,bL=wr.heap.size:=⟨_,rfl⟩
        rw [← hbL] at hs3 d1 d2 d4 ⊢
        clear hh3 hx3 hbL
        obtain ⟨REST,hREST⟩:∃ x,allN (quAt d) (d.ls.length - (k+1)) (k+1)=x:=⟨_,rfl⟩
        have HREST:Hid (allN (quAt d) (d.ls.length - (k+1)) (k+1)=REST):=hREST
        rw [hREST] at HQ
        clear hREST
        go_wp2_with fail
        go_loopw [5] (fun i wx=>∃ j:Nat,j ≤ l.q.length ∧ i=.int .i64 j ∧ Hid (queB d=((hAt l.h ts && eqTs (l.q.drop j) ((ts.drop a).drop j)) && REST)) ∧ Below W3.heap.size W3 wx) (fun i _=>l.q.length - (intOf i).toNat)
        case atStart=>exact ⟨0,by omega,rfl,HQ,Below.refl _ _⟩
        case round =>
          clear HQ
          obtain ⟨j,hj,rfl,HJ,hb⟩:=hrel
          have q2:_=some (Value.slice pq l.q.length qq):=(hb.cell (p:=⟨bL,0+2,none⟩) hs3).trans d2
          by_cases hjl:j < l.q.length
          · have q1:_=some (Value.int .i64 (a:Int)):=(hb.cell (p:=⟨bL,0+1,none⟩) hs3).trans d1
            have c9:=(hb.cell (p:=⟨w.heap.size,0+9,none⟩) hsw3).trans e9
            have ka4:=(hb.cell (p:=⟨ga,oa+k,none⟩) hga3).trans ka3
            have hjt:a+j < ts.length:=by have:=HAT.out;omega
            have hji:(j:Int) < (l.q.length:Int):=by omega
            have hjti:(a:Int)+(j:Int) < (ts.length:Int):=by omega
            have hw9:IntKind.i64.wrap ((a:Int)+(j:Int))=(a:Int)+(j:Int):=by rw [IntKind.wrap_i64];omega
            obtain ⟨g1,o1,rfl,hg1,hct⟩:=hct (by intro e;rw [e] at hjt;simp at hjt)
            obtain ⟨g2,o2,rfl,hg2,hcq⟩:=hcq (by intro e;rw [e] at hjl;simp at hjl)
            obtain ⟨x,hx⟩:∃ x,l.q[j]? = some x:=⟨l.q[j],List.getElem?_eq_getElem _⟩
            obtain ⟨y,hy⟩:∃ x,ts[a+j]? = some x:=⟨ts[a+j],List.getElem?_eq_getElem _⟩
            have hy':(ts.drop a)[j]? = some y:=by rw [List.getElem?_drop,hy]
            have kx:=(hb.cell (p:=⟨g2,o2+j,none⟩) hg2).trans (hcq j x hx)
            have ky:=(hb.cell (p:=⟨g1,o1+(a+j),none⟩) hg1).trans (hct (a+j) y hy)
            have HX:Hid (queB d=((hAt l.h ts && ((x.toList == y.toList) && eqTs (l.q.drop (j+1)) ((ts.drop a).drop (j+1)))) && REST)):=by unfold Hid;rw [HJ.out,Zjy hx hy']
            clear hcq hct hch hx hy hy' HJ d1 d2 d4 e9 ka3
            cases e:(x.toList == y.toList) with
            | true =>
              have HB:Hid (queB d=((hAt l.h ts && eqTs (l.q.drop (j+1)) ((ts.drop a).drop (j+1))) && REST)):=by unfold Hid;rw [HX.out,e];rfl
              clear HX
              go_wp2
              go_quiet (fail)
              go_wp2
              go_roundw
              case rel=>exact ⟨j+1,by omega,by go_num,HB,hb.trans ((Ze5 _ _).mono hb.size)⟩
              case measure=>simp [intOf];omega
            | false =>
              have HB:Hid (queB d=false):=by unfold Hid;rw [HX.out,e];simp
              clear HX
              go_wp2
              go_quiet (fail)
              go_wp2
              go_ret
              exact ⟨retB (by rw [HW.out,HB.out];rfl),(hB3.trans (hb.mono hB3.size)).trans ((Ze5 _ _).mono (hB3.trans (hb.mono hB3.size)).size)⟩
          · have HB:Hid (queB d=(hAt (l.h.drop 0) ts && REST)):=by unfold Hid;rw [HJ.out,ZlB (by omega) (by rw [List.length_drop];have:=HAT.out;omega),Bool.and_true];rfl
            clear HJ hcq
            go_wp2_with fail
            clear q2
            go_loopw [6] (fun i wx=>∃ j:Nat,j ≤ l.h.length ∧ i=.int .i64 j ∧ Hid (queB d=(hAt (l.h.drop j) ts && REST)) ∧ Below W3.heap.size W3 wx) (fun i _=>l.h.length - (intOf i).toNat)
            case atStart=>exact ⟨0,by omega,rfl,HB,hb⟩
            case round =>
              clear HB hb
              obtain ⟨j,hj,rfl,HJ,hb⟩:=hrel
              have q4:_=some (Value.slice ph l.h.length qh):=(hb.cell (p:=⟨bL,0+4,none⟩) hs3).trans d4
              by_cases hjl:j < l.h.length
              · have c9:=(hb.cell (p:=⟨w.heap.size,0+9,none⟩) hsw3).trans e9
                have ka4:=(hb.cell (p:=⟨ga,oa+k,none⟩) hga3).trans ka3
                obtain ⟨g,o,rfl,hg,hch⟩:=hch (by intro e;rw [e] at hjl;simp at hjl)
                obtain ⟨x,hx⟩:∃ x,l.h[j]? = some x:=⟨l.h[j],by simp [hjl]⟩
                obtain ⟨k0,k1⟩:=(hch j x hx).below hb hg
                obtain ⟨n0,n1⟩:=NO.out x (List.mem_of_getElem? hx)
                obtain ⟨n,hn⟩:∃ n:Nat,x.n=n:=⟨x.n.toNat,by omega⟩
                have hnt:n < ts.length:=by omega
                have hni:(n:Int) < (ts.length:Int):=by omega
                have hji:(j:Int) < (l.h.length:Int):=by omega
                obtain ⟨y,hy⟩:∃ y,ts[n]? = some y:=⟨ts[n],List.getElem?_eq_getElem _⟩
                have HS:Hid (queB d=(((x.s.toList == y.toList) && hAt (l.h.drop (j+1)) ts) && REST)):=by unfold Hid;rw [HJ.out,hAt_step hx hn hy]
                obtain ⟨g2,o2,rfl,hg2,hct⟩:=hct (by intro e;rw [e] at hnt;simp at hnt)
                have ky:=(hb.cell (p:=⟨g2,o2+n,none⟩) hg2).trans (hct n y hy)
                clear hch hx hct hy HJ n0 n1 NO d1 d2 d4 e9 ka3
                rw [hn] at k0
                clear hn
                cases e:(x.s.toList == y.toList) with
                | true =>
                  have HB:Hid (queB d=(hAt (l.h.drop (j+1)) ts && REST)):=by unfold Hid;rw [HS.out,e];rfl
                  clear HS
                  go_wp2
                  go_quiet (fail)
                  go_wp2
                  go_roundw
                  case rel=>exact ⟨j+1,by omega,by go_num,HB,hb.trans ((Ze5 _ _).mono hb.size)⟩
                  case measure=>simp [intOf];omega
                | false =>
                  have HB:Hid (queB d=false):=by unfold Hid;rw [HS.out,e];rfl
                  clear HS
                  go_wp2
                  go_quiet (fail)
                  go_wp2
                  go_ret
                  exact ⟨retB (by rw [HW.out,HB.out];rfl),(hB3.trans (hb.mono hB3.size)).trans ((Ze5 _ _).mono (hB3.trans (hb.mono hB3.size)).size)⟩
              · have HB:Hid (queB d=allN (quAt d) (d.ls.length - (k+1)) (k+1)):=by unfold Hid;rw [HJ.out,hAt_end (by omega),HREST.out];rfl
                clear HJ hch
                go_wp2
                go_roundw
                case rel=>exact ⟨k+1,by omega,by go_num,HB,hbR.trans (hb.mono hbR.size)⟩
                case measure=>simp [intOf];omega
      · have HB:Hid (queB d=true):=by unfold Hid;rw [HK.out,ZmX (by omega)]
        clear HK hcella hcelll
        go_wp2
        go_ret
        exact ⟨retB (by rw [HW.out,HB.out];rfl),hB⟩
end Go.Proofs.YtkpfangkfknhoaaGreatDoor
/-
  Contract of the laws' sameTexts, and what is read of the first of them. No condition.
-/
namespace Go.Proofs.YtkpfangkfknhoaaGreatDoor
open Go.RowKit
theorem StRow.take {w:World}{ao:Option Addr}{n cap k:Nat}{xs:List ByteArray}(h:StRow w (.slice ao n cap) xs)(hk:k ≤ xs.length):StRow w (.slice ao k cap) (xs.take k):=by
  obtain ⟨ao',cap',e,hc,hm,hz,hcell⟩:=h
  simp only [Value.slice.injEq] at e
  obtain ⟨rfl,rfl,rfl⟩:=e
  have hl:(xs.take k).length=k:=by rw [List.length_take];omega
  refine ⟨ao,cap,by rw [hl],⟨by rw [hl];omega,hc.2⟩,by omega,fun x hx=>hz x (List.mem_of_mem_take hx),fun hne=>?_⟩
  obtain ⟨g,o,rfl,hg,hcell⟩:=hcell (fun e=>hne (by rw [e];simp))
  refine ⟨g,o,rfl,hg,fun i x hi=>hcell i x ?_⟩
  rw [List.getElem?_take] at hi
  split at hi
  · exact hi
  · cases hi
end Go.Proofs.YtkpfangkfknhoaaGreatDoor
/-
  Contracts of impl's tookInOrder and spec's JudgeOrder. Of a world that is right; the variable errors.errorType is not read by these.
-/
namespace Go.Proofs.YtkpfangkfknhoaaGreatDoor
open Go.RowKit
theorem itookord_any (vn vi vf vh vl vg vp va vt:Value)(d:Wd)(B:Nat)(w:World)(R:WR B w vn vi vf vh vl vg vp va vt d)(L:LkAll d) :
    Calls Tryz.prog 25 #[.agg #[vn,vi,vf,.int .i64 d.pl,vh,vl,vg,vp,.int .i64 d.nx,va,vt]] w fun e w'=>e=.returned (.bool (ordB d)) ∧ Below w.heap.size w w':=by
  have R0:=R
  obtain ⟨⟨an,cn,rfl⟩,⟨ai,ci,rfl⟩,⟨af,cf,rfl⟩,⟨ah,ch,rfl⟩,⟨al,cl,rfl⟩,⟨ag,cg,rfl⟩,⟨ap,cp,rfl⟩,⟨aa,ca,rfl⟩,⟨ab,cb,rfl⟩⟩:=R.form
  clear R
  have hB0:=Zap w (Obj.cells #[.slice an d.ns.length cn,.slice ai d.is.length ci,.slice af d.ds.length cf,.int .i64 d.pl,.slice ah d.hs.length ch,.slice al d.ls.length cl,.slice ag d.gs.length cg,.slice ap d.ps.length cp,.int .i64 d.nx,.slice aa d.ga.length ca,.slice ab d.tk.length cb] 50)
  have hx0:=heap_alloc_new w (Obj.cells #[.slice an d.ns.length cn,.slice ai d.is.length ci,.slice af d.ds.length cf,.int .i64 d.pl,.slice ah d.hs.length ch,.slice al d.ls.length cl,.slice ag d.gs.length cg,.slice ap d.ps.length cp,.int .i64 d.nx,.slice aa d.ga.length ca,.slice ab d.tk.length cb] 50)
  obtain ⟨aoa,capa,hha,_,_,hcella⟩:=R0.ra
  simp only [Value.slice.injEq] at hha
  obtain ⟨rfl,_,rfl⟩:=hha
  obtain ⟨aot,capt,hht,_,_,hcellt⟩:=R0.rt
  simp only [Value.slice.injEq] at hht
  obtain ⟨rfl,_,rfl⟩:=hht
  have HV:Hid (ordB d=allN (Zl4 d) (d.tk.length - 0) 0):=by unfold Hid ordB;rw [L.lt];rfl
  have hle:d.tk.length ≤ d.ga.length:=by have:=L.lg;have:=L.lt;omega
  have hll:d.tk.length ≤ d.ls.length:=by have:=L.lt;omega
  have L0:Hid (LkAll d):=L
  clear L
  have k1:=cell_of_row _ _ 9 _ _ _ hx0
  have k2:=cell_of_row _ _ 10 _ _ _ hx0
  have hs1:=Zao hx0
  go_enter Tryz.func25,Tryz.ntmps25
  go_wp2_with fail
  clear k2
  generalize w.alloc (Obj.cells #[.slice an d.ns.length cn,.slice ai d.is.length ci,.slice af d.ds.length cf,.int .i64 d.pl,.slice ah d.hs.length ch,.slice al d.ls.length cl,.slice ag d.gs.length cg,.slice ap d.ps.length cp,.int .i64 d.nx,.slice aa d.ga.length ca,.slice ab d.tk.length cb] 50)=w0 at *
  go_loopw [8] (fun i wr=>∃ k:Nat,k ≤ d.tk.length ∧ i=.int .i64 k ∧ Hid (ordB d=allN (Zl4 d) (d.tk.length - k) k) ∧ Below w0.heap.size w0 wr) (fun i _=>d.tk.length - (intOf i).toNat)
  case atStart=>exact ⟨0,by omega,rfl,HV,Below.refl _ _⟩
  case round =>
    clear HV
    obtain ⟨k,hk,rfl,HK,hb⟩:=hrel
    have hB:=hB0.trans (hb.mono hB0.size)
    have c9:=(hb.cell (p:=⟨w.heap.size,0+9,none⟩) hs1).trans k1
    clear k1 hx0
    by_cases hlt:k < d.tk.length
    · have h2:k < d.ga.length:=by omega
      have h2i:(k:Int) < (d.ga.length:Int):=by omega
      have h3:k < d.ls.length:=by omega
      obtain ⟨ga,oa,rfl,_,hga,hcella⟩:=hcella (by intro e;rw [e] at h2;simp at h2)
      obtain ⟨gt,ot,rfl,_,hgt,hcellt⟩:=hcellt (by intro e;rw [e] at hlt;simp at hlt)
      obtain ⟨l,hl⟩:∃ x,d.ls[k]? = some x:=⟨d.ls[k],List.getElem?_eq_getElem _⟩
      obtain ⟨ts,hta⟩:∃ x,d.ga[k]? = some x:=⟨d.ga[k],List.getElem?_eq_getElem _⟩
      obtain ⟨us,htu⟩:∃ x,d.tk[k]? = some x:=⟨d.tk[k],List.getElem?_eq_getElem _⟩
      obtain ⟨_,_,hra,ua,rfl,A1,_⟩:=hcella k ts hta
      obtain ⟨_,_,hrt,ut,rfl,T1,_⟩:=hcellt k us htu
      have hus:us.length ≤ ts.length:=by
        have g1:=L0.out.ts hl hta
        have g2:=L0.out.us hl htu
        have g3:=Za7 g1.1
        omega
      have HS:Hid (ordB d=(eqTs us (ts.take us.length) && allN (Zl4 d) (d.tk.length - (k+1)) (k+1))):=by unfold Hid;rw [HK.out,ZmU hlt,ZmY htu hta]
      have ka:=ZaT (Zaf hra hB hga)
      have kt:=ZaT (Zaf hrt hB hgt)
      rw [Nat.mul_one] at ka kt
      have A2:=A1.below hB
      have T2:=T1.below hB
      obtain ⟨pa,qa,rfl⟩:=A1.small
      obtain ⟨pt,qt,rfl⟩:=T1.small
      have hqa:us.length ≤ qa:=by
        obtain ⟨ao,cap,e,hc,_⟩:=A2
        simp only [Value.slice.injEq] at e
        obtain ⟨rfl,_,rfl⟩:=e
        exact Nat.le_trans hus hc.1
      have hqi:(us.length:Int) ≤ (qa:Int):=by omega
      have EQ:=fun W (hW:Below wr.heap.size wr W)=>Zms _ _ us (ts.take us.length) W (T2.below hW) ((A2.take hus).below hW)
      clear hcella hcellt hl hta htu hra hrt A1 T1 A2 T2 HK L0
      obtain ⟨r,hr⟩:∃ r,eqTs us (ts.take us.length)=r:=⟨_,rfl⟩
      rw [hr] at HS EQ
      clear hr
      go_wp2_with fail
      refine (EQ _ (Below.refl _ _)).mono ?_
      rintro e w2 ⟨rfl,hb2⟩
      have hb3:=hb.trans (hb2.mono hb.size)
      have hB3:=hB.trans (hb2.mono hB.size)
      clear EQ hb2 ka kt c9
      cases r with
      | true =>
        have HB:Hid (ordB d=allN (Zl4 d) (d.tk.length - (k+1)) (k+1)):=by unfold Hid;rw [HS.out];rfl
        clear HS
        go_wp2
        go_roundw
        case rel=>exact ⟨k+1,by omega,by go_num,HB,hb3⟩
        case measure=>simp [intOf];omega
      | false =>
        have HB:Hid (ordB d=false):=by unfold Hid;rw [HS.out];rfl
        clear HS
        go_wp2
        go_ret
        exact ⟨retB HB.out.symm,hB3⟩
    · have HB:Hid (ordB d=true):=by unfold Hid;rw [HK.out,ZmX (by omega)]
      clear HK hcella hcellt
      go_wp2
      go_ret
      exact ⟨retB HB.out.symm,hB⟩
theorem sjorder_any (vn vi vf vh vl vg vp va vt:Value)(d:Wd)(B:Nat)(w:World)(R:WR B w vn vi vf vh vl vg vp va vt d)(hsm:∀ x ∈ d.hs,SmH x) :
    Calls Tryz.prog 15 #[.agg #[vn,vi,vf,.int .i64 d.pl,vh,vl,vg,vp,.int .i64 d.nx,va,vt]] w fun e w'=>e=.returned (.bool (Zaq d && ordB d)) ∧ Below w.heap.size w w':=by
  have R0:=R
  obtain ⟨⟨an,cn,rfl⟩,⟨ai,ci,rfl⟩,⟨af,cf,rfl⟩,⟨ah,ch,rfl⟩,⟨al,cl,rfl⟩,⟨ag,cg,rfl⟩,⟨ap,cp,rfl⟩,⟨aa,ca,rfl⟩,⟨ab,cb,rfl⟩⟩:=R.form
  clear R
  have hB0:=Zap w (Obj.cells #[.slice an d.ns.length cn,.slice ai d.is.length ci,.slice af d.ds.length cf,.int .i64 d.pl,.slice ah d.hs.length ch,.slice al d.ls.length cl,.slice ag d.gs.length cg,.slice ap d.ps.length cp,.int .i64 d.nx,.slice aa d.ga.length ca,.slice ab d.tk.length cb] 50)
  have hx0:=heap_alloc_new w (Obj.cells #[.slice an d.ns.length cn,.slice ai d.is.length ci,.slice af d.ds.length cf,.int .i64 d.pl,.slice ah d.hs.length ch,.slice al d.ls.length cl,.slice ag d.gs.length cg,.slice ap d.ps.length cp,.int .i64 d.nx,.slice aa d.ga.length ca,.slice ab d.tk.length cb] 50)
  go_enter Tryz.func15,Tryz.ntmps15
  go_wp2_with (refine wpList_load_row rfl 50 _ rfl w.heap.size rfl 50 #[.slice an d.ns.length cn,.slice ai d.is.length ci,.slice af d.ds.length cf,.int .i64 d.pl,.slice ah d.hs.length ch,.slice al d.ls.length cl,.slice ag d.gs.length cg,.slice ap d.ps.length cp,.int .i64 d.nx,.slice aa d.ga.length ca,.slice ab d.tk.length cb] (0,0) _ hx0 Tryz.underlying50 rfl ZnQ ?_)
  refine (ZfE _ _ _ _ _ _ _ _ _ d B _ (R0.below hB0) hsm).mono ?_
  rintro e w1 ⟨rfl,hb⟩
  have hx1:=Zaa hx0 hb
  have hB1:=hB0.trans (hb.mono hB0.size)
  clear hb hx0 hB0
  cases hw:Zaq d with
  | false =>
    go_wp2
    go_ret
    exact ⟨retB (by rw [hw];rfl),hB1⟩
  | true =>
    have L:=Zcq hw
    have HW:Hid (Zaq d=true):=hw
    have HV:Hid (ordB d=allN (Zl4 d) (d.ls.length - 0) 0):=by unfold Hid ordB;rfl
    have hle:d.ls.length ≤ d.ga.length:=by have:=L.lg;omega
    have hll:d.ls.length ≤ d.tk.length:=by have:=L.lt;omega
    have L0:Hid (LkAll d):=L
    clear L hw
    obtain ⟨aoa,capa,hha,_,_,hcella⟩:=R0.ra
    simp only [Value.slice.injEq] at hha
    obtain ⟨rfl,_,rfl⟩:=hha
    obtain ⟨aot,capt,hht,_,_,hcellt⟩:=R0.rt
    simp only [Value.slice.injEq] at hht
    obtain ⟨rfl,_,rfl⟩:=hht
    have k1:=cell_of_row _ _ 9 _ _ _ hx1
    have k2:=cell_of_row _ _ 10 _ _ _ hx1
    have k3:=cell_of_row _ _ 5 _ _ _ hx1
    have hs1:=Zao hx1
    clear hx1
    go_wp2_with fail
    go_loopw [3] (fun i wr=>∃ k:Nat,k ≤ d.ls.length ∧ i=.int .i64 k ∧ Hid (ordB d=allN (Zl4 d) (d.ls.length - k) k) ∧ Below w1.heap.size w1 wr) (fun i _=>d.ls.length - (intOf i).toNat)
    case atStart=>exact ⟨0,by omega,rfl,HV,Below.refl _ _⟩
    case round =>
      clear HV
      obtain ⟨k,hk,rfl,HK,hb⟩:=hrel
      have c5:=(hb.cell (p:=⟨w.heap.size,0+5,none⟩) hs1).trans k3
      by_cases hlt:k < d.ls.length
      · have h2:k < d.ga.length:=by omega
        have h2i:(k:Int) < (d.ga.length:Int):=by omega
        have h3:k < d.tk.length:=by omega
        have h3i:(k:Int) < (d.tk.length:Int):=by omega
        obtain ⟨ga,oa,rfl,_,hga,hcella⟩:=hcella (by intro e;rw [e] at h2;simp at h2)
        obtain ⟨gt,ot,rfl,_,hgt,hcellt⟩:=hcellt (by intro e;rw [e] at h3;simp at h3)
        obtain ⟨l,hl⟩:∃ x,d.ls[k]? = some x:=⟨d.ls[k],List.getElem?_eq_getElem _⟩
        obtain ⟨ts,hta⟩:∃ x,d.ga[k]? = some x:=⟨d.ga[k],List.getElem?_eq_getElem _⟩
        obtain ⟨us,htu⟩:∃ x,d.tk[k]? = some x:=⟨d.tk[k],List.getElem?_eq_getElem _⟩
        obtain ⟨_,_,hra,ua,rfl,A1,_⟩:=hcella k ts hta
        obtain ⟨_,_,hrt,ut,rfl,T1,_⟩:=hcellt k us htu
        have hus:us.length ≤ ts.length:=by
          have g1:=L0.out.ts hl hta
          have g2:=L0.out.us hl htu
          have g3:=Za7 g1.1
          omega
        have HS:Hid (ordB d=(eqTs us (ts.take us.length) && allN (Zl4 d) (d.ls.length - (k+1)) (k+1))):=by unfold Hid;rw [HK.out,ZmU hlt,ZmY htu hta]
        obtain ⟨pa,qa,rfl,_,_,_,hcA⟩:=A1
        obtain ⟨pt,qt,rfl,_,_,_,hcT⟩:=T1
        have ka:=ZaT hra
        have kt:=ZaT hrt
        rw [Nat.mul_one] at ka kt
        clear hcella hcellt hl hta htu hra hrt HK L0
        go_wp2_with fail
        clear c5
        go_loopw [4] (fun i wx=>∃ j:Nat,j ≤ us.length ∧ i=.int .i64 j ∧ Hid (ordB d=(eqTs (us.drop j) ((ts.take us.length).drop j) && allN (Zl4 d) (d.ls.length - (k+1)) (k+1))) ∧ Below w1.heap.size w1 wx) (fun i _=>us.length - (intOf i).toNat)
        case atStart=>exact ⟨0,by omega,rfl,HS,hb⟩
        case round =>
          clear hb HS
          obtain ⟨j,hj,rfl,HJ,hb⟩:=hrel
          have hB:=hB1.trans (hb.mono hB1.size)
          have c9:=(hb.cell (p:=⟨w.heap.size,0+9,none⟩) hs1).trans k1
          have c10:=(hb.cell (p:=⟨w.heap.size,0+10,none⟩) hs1).trans k2
          have ka1:=(hB.cell (p:=⟨ga,oa+k,none⟩) hga).trans ka
          have kt1:=(hB.cell (p:=⟨gt,ot+k,none⟩) hgt).trans kt
          clear ka kt k1 k2 k3
          by_cases hjl:j < us.length
          · have hjt:j < ts.length:=by omega
            have hji:(j:Int) < (us.length:Int):=by omega
            have hjti:(j:Int) < (ts.length:Int):=by omega
            obtain ⟨g1,o1,rfl,hg1,hcA⟩:=hcA (by intro e;rw [e] at hjt;simp at hjt)
            obtain ⟨g2,o2,rfl,hg2,hcT⟩:=hcT (by intro e;rw [e] at hjl;simp at hjl)
            obtain ⟨x,hx⟩:∃ x,us[j]? = some x:=⟨us[j],List.getElem?_eq_getElem _⟩
            obtain ⟨y,hy⟩:∃ x,ts[j]? = some x:=⟨ts[j],List.getElem?_eq_getElem _⟩
            have hy':(ts.take us.length)[j]? = some y:=by rw [List.getElem?_take,if_pos hjl,hy]
            have kx:=(hB.cell (p:=⟨g2,o2+j,none⟩) hg2).trans (hcT j x hx)
            have ky:=(hB.cell (p:=⟨g1,o1+j,none⟩) hg1).trans (hcA j y hy)
            have HX:Hid (ordB d=(((x.toList == y.toList) && eqTs (us.drop (j+1)) ((ts.take us.length).drop (j+1))) && allN (Zl4 d) (d.ls.length - (k+1)) (k+1))):=by unfold Hid;rw [HJ.out,Zjy hx hy']
            clear hcA hcT hx hy hy' HJ
            cases e:(x.toList == y.toList) with
            | true =>
              have HB:Hid (ordB d=(eqTs (us.drop (j+1)) ((ts.take us.length).drop (j+1)) && allN (Zl4 d) (d.ls.length - (k+1)) (k+1))):=by unfold Hid;rw [HX.out,e];rfl
              clear HX
              go_wp2
              go_quiet (fail)
              go_wp2
              go_roundw
              case rel=>exact ⟨j+1,by omega,by go_num,HB,hb.trans ((Ze5 _ _).mono hb.size)⟩
              case measure=>simp [intOf];omega
            | false =>
              have HB:Hid (ordB d=false):=by unfold Hid;rw [HX.out,e];rfl
              clear HX
              go_wp2
              go_quiet (fail)
              go_wp2
              go_ret
              exact ⟨retB (by rw [HW.out,HB.out];rfl),hB.trans ((Ze5 _ _).mono hB.size)⟩
          · have HB:Hid (ordB d=allN (Zl4 d) (d.ls.length - (k+1)) (k+1)):=by unfold Hid;rw [HJ.out,ZlB (by omega) (by rw [List.length_take];omega)];rfl
            clear HJ hcA hcT
            go_wp2
            go_roundw
            case rel=>exact ⟨k+1,by omega,by go_num,HB,hb⟩
            case measure=>simp [intOf];omega
      · have HB:Hid (ordB d=true):=by unfold Hid;rw [HK.out,ZmX (by omega)]
        have hB:=hB1.trans (hb.mono hB1.size)
        clear HK hcella hcellt
        go_wp2
        go_ret
        exact ⟨retB (by rw [HW.out,HB.out];rfl),hB⟩
end Go.Proofs.YtkpfangkfknhoaaGreatDoor
/-
  The tables of numbers of the library functions slices.DeleteFunc, slices.Sort and slices.Compact at this program.
-/
namespace Go.Proofs
open Go.Shelf
def Tryz.laysNm220_ren:Go.Shelf.Ren:=⟨fun | 20=>59 | n=>n,fun | 22=>124 | 3=>3 | 4=>4 | 0=>0 | n=>n,fun | n=>n⟩
theorem Tryz.laysNm220:Go.Proofs.Lays2.n20 Tryz.prog Tryz.laysNm220_ren:={
  mixed:=by kernel_rfl
  f20:=Tryz.func59.trans (congrArg some (by kernel_rfl))
  t0:=Tryz.underlying0
  a0:=Tryz.isAgg0
  z0:=Tryz.sizeOf0
  v0:=Tryz.zeroValue0
  t3:=Tryz.underlying3
  a3:=Tryz.isAgg3
  z3:=Tryz.sizeOf3
  v3:=Tryz.zeroValue3
  t4:=Tryz.underlying4
  a4:=Tryz.isAgg4
  z4:=Tryz.sizeOf4
  v4:=Tryz.zeroValue4
  t22:=Tryz.underlying124
  a22:=Tryz.isAgg124
  z22:=Tryz.sizeOf124
  v22:=Tryz.zeroValue124
  i3:=by kernel_rfl }
def Tryz.laysNm189_ren:Go.Shelf.Ren:=⟨fun | 189=>58 | 125=>99 | 257=>98 | 128=>138 | 129=>139 | 294=>129 | 295=>130 | 296=>131 | 297=>132 | 298=>133 | 299=>134 | 216=>135 | 300=>136 | 301=>137 | 328=>168 | 329=>169 | 330=>170 | 331=>171 | 332=>172 | 215=>173 | 343=>200 | n=>n,fun | 28=>124 | 3=>3 | 46=>168 | 0=>0 | 51=>206 | 53=>208 | 4=>4 | 183=>199 | 182=>198 | 131=>164 | 5=>5 | 9=>9 | 218=>239 | 222=>229 | 228=>269 | 229=>270 | n=>n,fun | n=>n⟩
theorem Tryz.laysNm189:Go.Proofs.Lays.n189 Tryz.prog Tryz.laysNm189_ren:={
  mixed:=by kernel_rfl
  f125:=Tryz.func99.trans (congrArg some (by kernel_rfl))
  f128:=Tryz.func138.trans (congrArg some (by kernel_rfl))
  f129:=Tryz.func139.trans (congrArg some (by kernel_rfl))
  f189:=Tryz.func58.trans (congrArg some (by kernel_rfl))
  f215:=Tryz.func173.trans (congrArg some (by kernel_rfl))
  f216:=Tryz.func135.trans (congrArg some (by kernel_rfl))
  f257:=Tryz.func98.trans (congrArg some (by kernel_rfl))
  f294:=Tryz.func129.trans (congrArg some (by kernel_rfl))
  f295:=Tryz.func130.trans (congrArg some (by kernel_rfl))
  f296:=Tryz.func131.trans (congrArg some (by kernel_rfl))
  f297:=Tryz.func132.trans (congrArg some (by kernel_rfl))
  f298:=Tryz.func133.trans (congrArg some (by kernel_rfl))
  f299:=Tryz.func134.trans (congrArg some (by kernel_rfl))
  f300:=Tryz.func136.trans (congrArg some (by kernel_rfl))
  f301:=Tryz.func137.trans (congrArg some (by kernel_rfl))
  f328:=Tryz.func168.trans (congrArg some (by kernel_rfl))
  f329:=Tryz.func169.trans (congrArg some (by kernel_rfl))
  f330:=Tryz.func170.trans (congrArg some (by kernel_rfl))
  f331:=Tryz.func171.trans (congrArg some (by kernel_rfl))
  f332:=Tryz.func172.trans (congrArg some (by kernel_rfl))
  f343:=Tryz.func200.trans (congrArg some (by kernel_rfl))
  t0:=Tryz.underlying0
  a0:=Tryz.isAgg0
  z0:=Tryz.sizeOf0
  v0:=Tryz.zeroValue0
  t3:=Tryz.underlying3
  a3:=Tryz.isAgg3
  z3:=Tryz.sizeOf3
  v3:=Tryz.zeroValue3
  t4:=Tryz.underlying4
  a4:=Tryz.isAgg4
  z4:=Tryz.sizeOf4
  v4:=Tryz.zeroValue4
  t5:=Tryz.underlying5
  a5:=Tryz.isAgg5
  z5:=Tryz.sizeOf5
  v5:=Tryz.zeroValue5
  t9:=Tryz.underlying9
  a9:=Tryz.isAgg9
  z9:=Tryz.sizeOf9
  v9:=Tryz.zeroValue9
  t28:=Tryz.underlying124
  a28:=Tryz.isAgg124
  z28:=Tryz.sizeOf124
  v28:=Tryz.zeroValue124
  t46:=Tryz.underlying168
  a46:=Tryz.isAgg168
  z46:=Tryz.sizeOf168
  v46:=Tryz.zeroValue168
  t51:=Tryz.underlying206
  a51:=Tryz.isAgg206
  z51:=Tryz.sizeOf206
  v51:=Tryz.zeroValue206
  t53:=Tryz.underlying208
  a53:=Tryz.isAgg208
  z53:=Tryz.sizeOf208
  v53:=Tryz.zeroValue208
  t131:=Tryz.underlying164
  a131:=Tryz.isAgg164
  z131:=Tryz.sizeOf164
  v131:=Tryz.zeroValue164
  t182:=Tryz.underlying198
  a182:=Tryz.isAgg198
  z182:=Tryz.sizeOf198
  v182:=Tryz.zeroValue198
  t183:=Tryz.underlying199
  a183:=Tryz.isAgg199
  z183:=Tryz.sizeOf199
  v183:=Tryz.zeroValue199
  t218:=Tryz.underlying239
  a218:=Tryz.isAgg239
  z218:=Tryz.sizeOf239
  v218:=Tryz.zeroValue239
  t222:=Tryz.underlying229
  a222:=Tryz.isAgg229
  z222:=Tryz.sizeOf229
  v222:=Tryz.zeroValue229
  t228:=Tryz.underlying269
  a228:=Tryz.isAgg269
  z228:=Tryz.sizeOf269
  v228:=Tryz.zeroValue269
  t229:=Tryz.underlying270
  a229:=Tryz.isAgg270
  z229:=Tryz.sizeOf270
  v229:=Tryz.zeroValue270 }
def Tryz.laysDel_ren:Go.Shelf.Ren:=⟨fun | 10=>55 | 6=>95 | n=>n,fun | 22=>124 | 23=>3 | 25=>127 | 3=>3 | 4=>4 | 0=>0 | n=>n,fun | n=>n⟩
theorem Tryz.laysDel:Go.Proofs.SlLaysH.n10 Tryz.prog Tryz.laysDel_ren:={
  mixed:=by kernel_rfl
  f6:=⟨Tryz.f95.name,by decide,Tryz.func95.trans (congrArg some (by kernel_rfl))⟩
  f10:=⟨Tryz.f55.name,by decide,Tryz.func55.trans (congrArg some (by kernel_rfl))⟩
  t0:=Tryz.underlying0
  a0:=Tryz.isAgg0
  z0:=Tryz.sizeOf0
  v0:=Tryz.zeroValue0
  t3:=Tryz.underlying3
  a3:=Tryz.isAgg3
  z3:=Tryz.sizeOf3
  v3:=Tryz.zeroValue3
  t4:=Tryz.underlying4
  a4:=Tryz.isAgg4
  z4:=Tryz.sizeOf4
  v4:=Tryz.zeroValue4
  t22:=Tryz.underlying124
  a22:=Tryz.isAgg124
  z22:=Tryz.sizeOf124
  v22:=Tryz.zeroValue124
  a23:=Tryz.isAgg3
  z23:=Tryz.sizeOf3
  t25:=Tryz.underlying127
  a25:=Tryz.isAgg127
  z25:=Tryz.sizeOf127
  v25:=Tryz.zeroValue127 }
end Go.Proofs
