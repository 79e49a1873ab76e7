/-
  Texts that stood by themselves, laid into one.
-/
import Derived.Test.YtanhoamdlhaaeaaGreatDoorLkOkSM
import Derived.Test.YtanhoamdlhaaeaaGreatDoorWOkLM
import Derived.Test.YtanhoamdlhaaeaaGreatDoorMkListM
import Derived.Test.YtanhoamdlhaaeaaGreatDoorWWM
/-
  Contracts of impl.WorldOk and spec.WorldOk. The variable errors.errorType reads as it is laid.
-/
set_option maxRecDepth 100000
set_option maxHeartbeats 6400000
namespace Go.Proofs.YtanhoamdlhaaeaaGreatDoor
open Go.Proofs.Tryz
open Go.RowKit
def Zax (d:Wd):Bool:=(ZaO d.ns d.is d.ds && (Zbp d.pl && pidB d.nx)) && ((d.hs.all (hmB d.ns d.is d.ds d.pl) && decide (d.hs.length <= 8)) && (lksB d && ((d.gs.all (gmB d.pl) && decide (d.gs.length <= 12)) && (d.ps.all (pdB d.pl) && decide (d.ps.length <= 20)))))
theorem Zke {n:Int}{b:Bool}(h:(decide (1 <= n) && decide (n <= 1000000000))=b):pidB n=b:=by
 unfold pidB;rw [<- h,Bool.eq_iff_iff];simp
theorem ZcH {a:Int}(h:Zbp a=true):1 <= a/\a <= 3:=by
 unfold Zbp at h;simp at h;exact h
theorem ZeP (vn vi vf vh vl vg vp va vt:Value)(d:Wd)(B:Nat)(w:World)(R:WR B w vn vi vf vh vl vg vp va vt d)(ah:∀ x ∈ d.hs,SmH x)(hg:ErrT w) :
  Calls prog 28 #[.agg #[vn,vi,vf,.int .i64 d.pl,vh,vl,vg,vp,.int .i64 d.nx,va,vt]] w fun e w'=>e=.returned (.bool (Zax d))/\Below w.heap.size w w':=by
 have U:=R;obtain ⟨⟨p,t,rfl⟩,⟨o,s,rfl⟩,⟨n,r,rfl⟩,⟨J,P,rfl⟩,⟨K,Q,rfl⟩,⟨I,O,rfl⟩,⟨L,S,rfl⟩,⟨H,N,rfl⟩,⟨M,T,rfl⟩⟩:=R.form;have i:=Zaw w (Obj.cells #[.slice p d.ns.length t,.slice o d.is.length s,.slice n d.ds.length r,.int .i64 d.pl,.slice J d.hs.length P,.slice K d.ls.length Q,.slice I d.gs.length O,.slice L d.ps.length S,.int .i64 d.nx,.slice H d.ga.length N,.slice M d.tk.length T] 51);have a:=cg w (Obj.cells #[.slice p d.ns.length t,.slice o d.is.length s,.slice n d.ds.length r,.int .i64 d.pl,.slice J d.hs.length P,.slice K d.ls.length Q,.slice I d.gs.length O,.slice L d.ps.length S,.int .i64 d.nx,.slice H d.ga.length N,.slice M d.tk.length T] 51)
 go_enter func28,ntmps28
 go_wp2_with (refine Zag rfl 45 _ rfl w.heap.size 0 rfl _ 51 #[.slice p d.ns.length t,.slice o d.is.length s,.slice n d.ds.length r] _ a rfl underlying45 rfl ZlH ?_)
 refine (ZcY _ _ _ d.ns d.is d.ds _ (U.rn.below i) (U.ri.below i) (U.rf.below i)).mono ?_;rintro e ai ⟨rfl,l⟩;replace a:=Zaf a l;replace i:=i.trans (l.mono i.size);clear l;obtain ⟨aa,W⟩:∃ b,ZaO d.ns d.is d.ds=b:=⟨_,rfl⟩;rw [W];cases aa with
 | false =>
  have m:Hid (Zax d=false):=by
   unfold Hid Zax;rw [W];rfl
  go_wp2;go_ret;exact ⟨by rw [m.out];rfl,i⟩
 | true =>
  have kc:ai.cell? ⟨w.heap.size,0+3,none⟩=some (.int .i64 d.pl):=cd _ _ 3 _ _ _ a;go_wp2_with fail;clear kc;refine (Zeh d.pl _).mono ?_;rintro e k ⟨rfl,rfl⟩;obtain ⟨ab,X⟩:∃ b,Zbp d.pl=b:=⟨_,rfl⟩;rw [X];cases ab with
  | false =>
   have m:Hid (Zax d=false):=by
    unfold Hid Zax;rw [W,X];rfl
   go_wp2;go_ret;exact ⟨by rw [m.out];rfl,i⟩
  | true =>
   have V:=ZcH X;have u:k.cell? ⟨w.heap.size,0,none⟩=some (.slice p d.ns.length t):=cd k _ 0 _ _ _ a;have v:k.cell? ⟨w.heap.size,1,none⟩=some (.slice o d.is.length s):=cd k _ 1 _ _ _ a;have y:k.cell? ⟨w.heap.size,2,none⟩=some (.slice n d.ds.length r):=cd k _ 2 _ _ _ a;have z:k.cell? ⟨w.heap.size,3,none⟩=some (.int .i64 d.pl):=cd k _ 3 _ _ _ a;have A:k.cell? ⟨w.heap.size,4,none⟩=some (.slice J d.hs.length P):=cd k _ 4 _ _ _ a;have C:k.cell? ⟨w.heap.size,5,none⟩=some (.slice K d.ls.length Q):=cd k _ 5 _ _ _ a;have D:k.cell? ⟨w.heap.size,6,none⟩=some (.slice I d.gs.length O):=cd k _ 6 _ _ _ a;have E:k.cell? ⟨w.heap.size,7,none⟩=some (.slice L d.ps.length S):=cd k _ 7 _ _ _ a;have F:k.cell? ⟨w.heap.size,8,none⟩=some (.int .i64 d.nx):=cd k _ 8 _ _ _ a
   have G:k.cell? ⟨w.heap.size,9,none⟩=some (.slice H d.ga.length N):=cd k _ 9 _ _ _ a;have j:k.cell? ⟨w.heap.size,10,none⟩=some (.slice M d.tk.length T):=cd k _ 10 _ _ _ a;go_wp2_with fail;clear u v y z A C D E F G j;refine (ZeH _ _ _ _ _ _ _ _ _ d B _ (U.below i) ah (hg.below i (ce _))).mono ?_;rintro e c ⟨rfl,l⟩;replace a:=Zaf a l;replace i:=i.trans (l.mono i.size);clear l;obtain ⟨ac,Y⟩:∃ b,(decide (d.hs.length <= 8) && d.hs.all (hmB d.ns d.is d.ds d.pl))=b:=⟨_,rfl⟩;rw [Y];cases ac with
   | false =>
    have m:Hid (Zax d=false):=by
     unfold Hid Zax;have q:(d.hs.all (hmB d.ns d.is d.ds d.pl) && decide (d.hs.length <= 8))=false:=by rw [Bool.and_comm];exact Y
     rw [q];simp
    go_wp2;go_ret;exact ⟨by rw [m.out];rfl,i⟩
   | true =>
    have u:c.cell? ⟨w.heap.size,0,none⟩=some (.slice p d.ns.length t):=cd c _ 0 _ _ _ a;have v:c.cell? ⟨w.heap.size,1,none⟩=some (.slice o d.is.length s):=cd c _ 1 _ _ _ a;have y:c.cell? ⟨w.heap.size,2,none⟩=some (.slice n d.ds.length r):=cd c _ 2 _ _ _ a;have z:c.cell? ⟨w.heap.size,3,none⟩=some (.int .i64 d.pl):=cd c _ 3 _ _ _ a;have A:c.cell? ⟨w.heap.size,4,none⟩=some (.slice J d.hs.length P):=cd c _ 4 _ _ _ a;have C:c.cell? ⟨w.heap.size,5,none⟩=some (.slice K d.ls.length Q):=cd c _ 5 _ _ _ a;have D:c.cell? ⟨w.heap.size,6,none⟩=some (.slice I d.gs.length O):=cd c _ 6 _ _ _ a;have E:c.cell? ⟨w.heap.size,7,none⟩=some (.slice L d.ps.length S):=cd c _ 7 _ _ _ a;have F:c.cell? ⟨w.heap.size,8,none⟩=some (.int .i64 d.nx):=cd c _ 8 _ _ _ a
    have G:c.cell? ⟨w.heap.size,9,none⟩=some (.slice H d.ga.length N):=cd c _ 9 _ _ _ a;have j:c.cell? ⟨w.heap.size,10,none⟩=some (.slice M d.tk.length T):=cd c _ 10 _ _ _ a;go_wp2_with fail;clear u v y z A C D E F G j;refine (ZeR _ _ _ _ _ _ _ _ _ d B _ (U.below i) V.1 V.2).mono ?_;rintro e f ⟨rfl,l⟩;replace a:=Zaf a l;replace i:=i.trans (l.mono i.size);clear l;obtain ⟨ad,h4⟩:∃ b,lksB d=b:=⟨_,rfl⟩;rw [h4];cases ad with
    | false =>
     have m:Hid (Zax d=false):=by
      unfold Hid Zax;rw [h4];simp
     go_wp2;go_ret;exact ⟨by rw [m.out];rfl,i⟩
    | true =>
     have u:f.cell? ⟨w.heap.size,0,none⟩=some (.slice p d.ns.length t):=cd f _ 0 _ _ _ a;have v:f.cell? ⟨w.heap.size,1,none⟩=some (.slice o d.is.length s):=cd f _ 1 _ _ _ a;have y:f.cell? ⟨w.heap.size,2,none⟩=some (.slice n d.ds.length r):=cd f _ 2 _ _ _ a;have z:f.cell? ⟨w.heap.size,3,none⟩=some (.int .i64 d.pl):=cd f _ 3 _ _ _ a;have A:f.cell? ⟨w.heap.size,4,none⟩=some (.slice J d.hs.length P):=cd f _ 4 _ _ _ a;have C:f.cell? ⟨w.heap.size,5,none⟩=some (.slice K d.ls.length Q):=cd f _ 5 _ _ _ a;have D:f.cell? ⟨w.heap.size,6,none⟩=some (.slice I d.gs.length O):=cd f _ 6 _ _ _ a;have E:f.cell? ⟨w.heap.size,7,none⟩=some (.slice L d.ps.length S):=cd f _ 7 _ _ _ a;have F:f.cell? ⟨w.heap.size,8,none⟩=some (.int .i64 d.nx):=cd f _ 8 _ _ _ a
     have G:f.cell? ⟨w.heap.size,9,none⟩=some (.slice H d.ga.length N):=cd f _ 9 _ _ _ a;have j:f.cell? ⟨w.heap.size,10,none⟩=some (.slice M d.tk.length T):=cd f _ 10 _ _ _ a;go_wp2_with fail;clear u v y z A C D E F G j;refine (ZeD _ _ _ _ _ _ _ _ _ d B _ (U.below i)).mono ?_;rintro e g ⟨rfl,l⟩;replace a:=Zaf a l;replace i:=i.trans (l.mono i.size);clear l;obtain ⟨ae,Z⟩:∃ b,(decide (d.gs.length <= 12) && d.gs.all (gmB d.pl))=b:=⟨_,rfl⟩;rw [Z];cases ae with
     | false =>
      have m:Hid (Zax d=false):=by
       unfold Hid Zax;have q:(d.gs.all (gmB d.pl) && decide (d.gs.length <= 12))=false:=by rw [Bool.and_comm];exact Z
       rw [q];simp
      go_wp2;go_ret;exact ⟨by rw [m.out];rfl,i⟩
     | true =>
      have u:g.cell? ⟨w.heap.size,0,none⟩=some (.slice p d.ns.length t):=cd g _ 0 _ _ _ a;have v:g.cell? ⟨w.heap.size,1,none⟩=some (.slice o d.is.length s):=cd g _ 1 _ _ _ a;have y:g.cell? ⟨w.heap.size,2,none⟩=some (.slice n d.ds.length r):=cd g _ 2 _ _ _ a;have z:g.cell? ⟨w.heap.size,3,none⟩=some (.int .i64 d.pl):=cd g _ 3 _ _ _ a;have A:g.cell? ⟨w.heap.size,4,none⟩=some (.slice J d.hs.length P):=cd g _ 4 _ _ _ a;have C:g.cell? ⟨w.heap.size,5,none⟩=some (.slice K d.ls.length Q):=cd g _ 5 _ _ _ a;have D:g.cell? ⟨w.heap.size,6,none⟩=some (.slice I d.gs.length O):=cd g _ 6 _ _ _ a;have E:g.cell? ⟨w.heap.size,7,none⟩=some (.slice L d.ps.length S):=cd g _ 7 _ _ _ a;have F:g.cell? ⟨w.heap.size,8,none⟩=some (.int .i64 d.nx):=cd g _ 8 _ _ _ a
      have G:g.cell? ⟨w.heap.size,9,none⟩=some (.slice H d.ga.length N):=cd g _ 9 _ _ _ a;have j:g.cell? ⟨w.heap.size,10,none⟩=some (.slice M d.tk.length T):=cd g _ 10 _ _ _ a;go_wp2_with fail;clear u v y z A C D E F G j;refine (Zdr _ _ _ _ _ _ _ _ _ d B _ (U.below i)).mono ?_;rintro e aj ⟨rfl,l⟩;replace a:=Zaf a l;replace i:=i.trans (l.mono i.size);clear l;obtain ⟨af,h6⟩:∃ b,(decide (d.ps.length <= 20) && d.ps.all (pdB d.pl))=b:=⟨_,rfl⟩;rw [h6];cases af with
      | false =>
       have m:Hid (Zax d=false):=by
        unfold Hid Zax;have q:(d.ps.all (pdB d.pl) && decide (d.ps.length <= 20))=false:=by rw [Bool.and_comm];exact h6
        rw [q];simp
       go_wp2;go_ret;exact ⟨by rw [m.out];rfl,i⟩
      | true =>
       have kc:aj.cell? ⟨w.heap.size,0+8,none⟩=some (.int .i64 d.nx):=cd _ _ 8 _ _ _ a;go_wp2_with fail;clear kc;refine (ZeM d.nx _).mono ?_;rintro e k ⟨rfl,rfl⟩;obtain ⟨ag,h7⟩:∃ b,pidB d.nx=b:=⟨_,rfl⟩;rw [h7];cases ag with
       | false =>
        have m:Hid (Zax d=false):=by
         unfold Hid Zax;rw [h7];simp
        go_wp2;go_ret;exact ⟨by rw [m.out];rfl,i⟩
       | true =>
        have m:Hid (Zax d=true):=by unfold Hid Zax;rw [Bool.and_comm] at Y Z h6;rw [W,X,h4,h7,Y,Z,h6];rfl
        go_wp2;go_ret;exact ⟨by rw [m.out];rfl,i⟩
theorem Zfl (vn vi vf vh vl vg vp va vt:Value)(d:Wd)(B:Nat)(w:World)(R:WR B w vn vi vf vh vl vg vp va vt d)(ad:∀ x ∈ d.hs,SmH x) :
  Calls prog 20 #[.agg #[vn,vi,vf,.int .i64 d.pl,vh,vl,vg,vp,.int .i64 d.nx,va,vt]] w fun e w'=>e=.returned (.bool (Zax d))/\Below w.heap.size w w':=by
 have U:=R;obtain ⟨⟨k,n,rfl⟩,⟨j,m,rfl⟩,⟨i,l,rfl⟩,⟨r,z,rfl⟩,⟨s,A,rfl⟩,⟨p,y,rfl⟩,⟨t,C,rfl⟩,⟨o,v,rfl⟩,⟨u,D,rfl⟩⟩:=R.form;have E:=Zaw w (Obj.cells #[.slice k d.ns.length n,.slice j d.is.length m,.slice i d.ds.length l,.int .i64 d.pl,.slice r d.hs.length z,.slice s d.ls.length A,.slice p d.gs.length y,.slice t d.ps.length C,.int .i64 d.nx,.slice o d.ga.length v,.slice u d.tk.length D] 51);have a:=cg w (Obj.cells #[.slice k d.ns.length n,.slice j d.is.length m,.slice i d.ds.length l,.int .i64 d.pl,.slice r d.hs.length z,.slice s d.ls.length A,.slice p d.gs.length y,.slice t d.ps.length C,.int .i64 d.nx,.slice o d.ga.length v,.slice u d.tk.length D] 51)
 go_enter func20,ntmps20
 go_wp2_with fail;refine (Zao _ _ _ _).mono ?_;rintro e wE ⟨rfl,rfl⟩;obtain ⟨Y,V⟩:∃ b,(decide (1 <= d.pl) && decide (d.pl <= 3))=b:=⟨_,rfl⟩;rw [V];cases Y with
 | false =>
  have K:Hid (Zax d=false):=by
   unfold Hid Zax;have q:Zbp d.pl=false:=V;rw [q];simp
  go_wp2;go_ret;exact ⟨by rw [K.out];rfl,E⟩
 | true =>
  have kc:(w.alloc (Obj.cells #[.slice k d.ns.length n,.slice j d.is.length m,.slice i d.ds.length l,.int .i64 d.pl,.slice r d.hs.length z,.slice s d.ls.length A,.slice p d.gs.length y,.slice t d.ps.length C,.int .i64 d.nx,.slice o d.ga.length v,.slice u d.tk.length D] 51)).cell? ⟨w.heap.size,0+8,none⟩=some (.int .i64 d.nx):=cd _ _ 8 _ _ _ a;go_wp2_with fail;clear kc;refine (Zao _ _ _ _).mono ?_;rintro e wE ⟨rfl,rfl⟩;obtain ⟨ac,h7⟩:∃ b,(decide (1 <= d.nx) && decide (d.nx <= 1000000000))=b:=⟨_,rfl⟩;rw [h7];cases ac with
  | false =>
   have K:Hid (Zax d=false):=by
    unfold Hid Zax;rw [Zke h7];simp
   go_wp2;go_ret;exact ⟨by rw [K.out];rfl,E⟩
  | true =>
   have L:=ZcH V;have H:(w.alloc (Obj.cells #[.slice k d.ns.length n,.slice j d.is.length m,.slice i d.ds.length l,.int .i64 d.pl,.slice r d.hs.length z,.slice s d.ls.length A,.slice p d.gs.length y,.slice t d.ps.length C,.int .i64 d.nx,.slice o d.ga.length v,.slice u d.tk.length D] 51)).cell? ⟨w.heap.size,0,none⟩=some (.slice k d.ns.length n):=cd (w.alloc (Obj.cells #[.slice k d.ns.length n,.slice j d.is.length m,.slice i d.ds.length l,.int .i64 d.pl,.slice r d.hs.length z,.slice s d.ls.length A,.slice p d.gs.length y,.slice t d.ps.length C,.int .i64 d.nx,.slice o d.ga.length v,.slice u d.tk.length D] 51)) _ 0 _ _ _ a
   have I:(w.alloc (Obj.cells #[.slice k d.ns.length n,.slice j d.is.length m,.slice i d.ds.length l,.int .i64 d.pl,.slice r d.hs.length z,.slice s d.ls.length A,.slice p d.gs.length y,.slice t d.ps.length C,.int .i64 d.nx,.slice o d.ga.length v,.slice u d.tk.length D] 51)).cell? ⟨w.heap.size,1,none⟩=some (.slice j d.is.length m):=cd (w.alloc (Obj.cells #[.slice k d.ns.length n,.slice j d.is.length m,.slice i d.ds.length l,.int .i64 d.pl,.slice r d.hs.length z,.slice s d.ls.length A,.slice p d.gs.length y,.slice t d.ps.length C,.int .i64 d.nx,.slice o d.ga.length v,.slice u d.tk.length D] 51)) _ 1 _ _ _ a
   have J:(w.alloc (Obj.cells #[.slice k d.ns.length n,.slice j d.is.length m,.slice i d.ds.length l,.int .i64 d.pl,.slice r d.hs.length z,.slice s d.ls.length A,.slice p d.gs.length y,.slice t d.ps.length C,.int .i64 d.nx,.slice o d.ga.length v,.slice u d.tk.length D] 51)).cell? ⟨w.heap.size,2,none⟩=some (.slice i d.ds.length l):=cd (w.alloc (Obj.cells #[.slice k d.ns.length n,.slice j d.is.length m,.slice i d.ds.length l,.int .i64 d.pl,.slice r d.hs.length z,.slice s d.ls.length A,.slice p d.gs.length y,.slice t d.ps.length C,.int .i64 d.nx,.slice o d.ga.length v,.slice u d.tk.length D] 51)) _ 2 _ _ _ a;go_wp2_with fail;clear H I J;refine (Zdg _ _ _ d.ns d.is d.ds _ (U.rn.below E) (U.ri.below E) (U.rf.below E)).mono ?_;rintro e c ⟨rfl,G⟩;replace a:=Zaf a G;replace E:=E.trans (G.mono E.size);clear G
   obtain ⟨X,h1⟩:∃ b,ZaO d.ns d.is d.ds=b:=⟨_,rfl⟩;rw [h1];cases X with
   | false =>
    have K:Hid (Zax d=false):=by
     unfold Hid Zax;rw [h1];rfl
    go_wp2;go_ret;exact ⟨by rw [K.out];rfl,E⟩
   | true =>
    have H:c.cell? ⟨w.heap.size,0,none⟩=some (.slice k d.ns.length n):=cd c _ 0 _ _ _ a;have I:c.cell? ⟨w.heap.size,1,none⟩=some (.slice j d.is.length m):=cd c _ 1 _ _ _ a;have J:c.cell? ⟨w.heap.size,2,none⟩=some (.slice i d.ds.length l):=cd c _ 2 _ _ _ a;have M:c.cell? ⟨w.heap.size,3,none⟩=some (.int .i64 d.pl):=cd c _ 3 _ _ _ a;have N:c.cell? ⟨w.heap.size,4,none⟩=some (.slice r d.hs.length z):=cd c _ 4 _ _ _ a;have O:c.cell? ⟨w.heap.size,5,none⟩=some (.slice s d.ls.length A):=cd c _ 5 _ _ _ a;have P:c.cell? ⟨w.heap.size,6,none⟩=some (.slice p d.gs.length y):=cd c _ 6 _ _ _ a;have Q:c.cell? ⟨w.heap.size,7,none⟩=some (.slice t d.ps.length C):=cd c _ 7 _ _ _ a;have S:c.cell? ⟨w.heap.size,8,none⟩=some (.int .i64 d.nx):=cd c _ 8 _ _ _ a
    have T:c.cell? ⟨w.heap.size,9,none⟩=some (.slice o d.ga.length v):=cd c _ 9 _ _ _ a;have F:c.cell? ⟨w.heap.size,10,none⟩=some (.slice u d.tk.length D):=cd c _ 10 _ _ _ a;go_wp2_with fail;clear H I J M N O P Q S T F;refine (Zfe _ _ _ _ _ _ _ _ _ d B _ (U.below E) L.1 L.2 ad).mono ?_;rintro e f ⟨rfl,G⟩;replace a:=Zaf a G;replace E:=E.trans (G.mono E.size);clear G;obtain ⟨Z,h3⟩:∃ b,(d.hs.all (hmB d.ns d.is d.ds d.pl) && decide (d.hs.length <= 8))=b:=⟨_,rfl⟩;rw [h3];cases Z with
    | false =>
     have K:Hid (Zax d=false):=by
      unfold Hid Zax;rw [h3];simp
     go_wp2;go_ret;exact ⟨by rw [K.out];rfl,E⟩
    | true =>
     have H:f.cell? ⟨w.heap.size,0,none⟩=some (.slice k d.ns.length n):=cd f _ 0 _ _ _ a;have I:f.cell? ⟨w.heap.size,1,none⟩=some (.slice j d.is.length m):=cd f _ 1 _ _ _ a;have J:f.cell? ⟨w.heap.size,2,none⟩=some (.slice i d.ds.length l):=cd f _ 2 _ _ _ a;have M:f.cell? ⟨w.heap.size,3,none⟩=some (.int .i64 d.pl):=cd f _ 3 _ _ _ a;have N:f.cell? ⟨w.heap.size,4,none⟩=some (.slice r d.hs.length z):=cd f _ 4 _ _ _ a;have O:f.cell? ⟨w.heap.size,5,none⟩=some (.slice s d.ls.length A):=cd f _ 5 _ _ _ a;have P:f.cell? ⟨w.heap.size,6,none⟩=some (.slice p d.gs.length y):=cd f _ 6 _ _ _ a;have Q:f.cell? ⟨w.heap.size,7,none⟩=some (.slice t d.ps.length C):=cd f _ 7 _ _ _ a;have S:f.cell? ⟨w.heap.size,8,none⟩=some (.int .i64 d.nx):=cd f _ 8 _ _ _ a
     have T:f.cell? ⟨w.heap.size,9,none⟩=some (.slice o d.ga.length v):=cd f _ 9 _ _ _ a;have F:f.cell? ⟨w.heap.size,10,none⟩=some (.slice u d.tk.length D):=cd f _ 10 _ _ _ a;go_wp2_with fail;clear H I J M N O P Q S T F;refine (Zff _ _ _ _ _ _ _ _ _ d B _ (U.below E) L.1 L.2).mono ?_;rintro e g ⟨rfl,G⟩;replace a:=Zaf a G;replace E:=E.trans (G.mono E.size);clear G;obtain ⟨aa,h4⟩:∃ b,lksB d=b:=⟨_,rfl⟩;rw [h4];cases aa with
     | false =>
      have K:Hid (Zax d=false):=by
       unfold Hid Zax;rw [h4];simp
      go_wp2;go_ret;exact ⟨by rw [K.out];rfl,E⟩
     | true =>
      have H:g.cell? ⟨w.heap.size,0,none⟩=some (.slice k d.ns.length n):=cd g _ 0 _ _ _ a;have I:g.cell? ⟨w.heap.size,1,none⟩=some (.slice j d.is.length m):=cd g _ 1 _ _ _ a;have J:g.cell? ⟨w.heap.size,2,none⟩=some (.slice i d.ds.length l):=cd g _ 2 _ _ _ a;have M:g.cell? ⟨w.heap.size,3,none⟩=some (.int .i64 d.pl):=cd g _ 3 _ _ _ a;have N:g.cell? ⟨w.heap.size,4,none⟩=some (.slice r d.hs.length z):=cd g _ 4 _ _ _ a;have O:g.cell? ⟨w.heap.size,5,none⟩=some (.slice s d.ls.length A):=cd g _ 5 _ _ _ a;have P:g.cell? ⟨w.heap.size,6,none⟩=some (.slice p d.gs.length y):=cd g _ 6 _ _ _ a;have Q:g.cell? ⟨w.heap.size,7,none⟩=some (.slice t d.ps.length C):=cd g _ 7 _ _ _ a;have S:g.cell? ⟨w.heap.size,8,none⟩=some (.int .i64 d.nx):=cd g _ 8 _ _ _ a
      have T:g.cell? ⟨w.heap.size,9,none⟩=some (.slice o d.ga.length v):=cd g _ 9 _ _ _ a;have F:g.cell? ⟨w.heap.size,10,none⟩=some (.slice u d.tk.length D):=cd g _ 10 _ _ _ a;go_wp2_with fail;clear H I J M N O P Q S T F;refine (Zfd _ _ _ _ _ _ _ _ _ d B _ (U.below E) L.1 L.2).mono ?_;rintro e ae ⟨rfl,G⟩;replace a:=Zaf a G;replace E:=E.trans (G.mono E.size);clear G;obtain ⟨ab,W⟩:∃ b,((d.gs.all (gmB d.pl) && d.ps.all (pdB d.pl)) && (decide (d.gs.length <= 12) && decide (d.ps.length <= 20)))=b:=⟨_,rfl⟩;rw [W];cases ab with
      | false =>
       have K:Hid (Zax d=false):=by
        unfold Hid Zax;cases q1:d.gs.all (gmB d.pl) <;> cases q2:d.ps.all (pdB d.pl) <;> cases q3:decide (d.gs.length <= 12) <;> cases q4:decide (d.ps.length <= 20) <;> simp [q1,q2,q3,q4] at W ⊢
       go_wp2;go_ret;exact ⟨by rw [K.out];rfl,E⟩
      | true =>
       have K:Hid (Zax d=true):=by unfold Hid Zax;have q2:Zbp d.pl=true:=V;simp only [Bool.and_eq_true] at W;obtain ⟨⟨g1,g2⟩,g3,g4⟩:=W;rw [h1,h4,q2,Zke h7,h3,g1,g2,g3,g4];rfl
       go_wp2;go_ret;exact ⟨by rw [K.out];rfl,E⟩
def ZaU:List Hm -> Int -> Nat -> Int
 | [],_,_=>-1
 | h :: hs,p,i=>if h.i == p then i else ZaU hs p (i+1)
theorem ZeG (a:List Hm)(p:Int)(i:Nat)(h:Hm)(d:a[i]? = some h)(e:(h.i == p)=true):ZaU (a.drop i) p i=i:=by
 obtain ⟨c,b⟩:=List.getElem?_eq_some_iff.1 d;rw [List.drop_eq_getElem_cons c,b,ZaU,if_pos e]
theorem ZdA (a:List Hm)(p:Int)(i:Nat)(h:Hm)(d:a[i]? = some h)(e:(h.i == p)=false):ZaU (a.drop i) p i=ZaU (a.drop (i+1)) p (i+1):=by
 obtain ⟨c,b⟩:=List.getElem?_eq_some_iff.1 d;rw [List.drop_eq_getElem_cons c,b,ZaU,if_neg (by rw [e];simp)]
theorem ZeF (a:List Hm)(p:Int)(i:Nat)(h:a.length <= i):ZaU (a.drop i) p i = -1:=by
 rw [List.drop_eq_nil_of_le h,ZaU]
theorem Zf2 (vn vi vf vh vl vg vp va vt:Value)(d:Wd)(p:Int)(B:Nat)(w:World)(R:WR B w vn vi vf vh vl vg vp va vt d) :
  Calls prog 19 #[.agg #[vn,vi,vf,.int .i64 d.pl,vh,vl,vg,vp,.int .i64 d.nx,va,vt],.int .i64 p] w fun e w'=>e=.returned (.int .i64 (ZaU d.hs p 0))/\Below w.heap.size w w':=by
 have R4:=R.rh;obtain ⟨⟨G,O,rfl⟩,⟨E,M,rfl⟩,⟨C,K,rfl⟩,⟨u,v,rfl⟩,⟨F,N,rfl⟩,⟨D,L,rfl⟩,⟨H,P,rfl⟩,⟨z,I,rfl⟩,⟨A,J,rfl⟩⟩:=R.form;clear R;obtain ⟨ao,ac,Y,X,hm,a⟩:=R4;simp only [Value.slice.injEq] at Y;obtain ⟨rfl,_,rfl⟩:=Y
 go_enter func19,ntmps19
 have j:Below w.heap.size w (w.alloc (Obj.cells #[.slice G d.ns.length O,.slice E d.is.length M,.slice C d.ds.length K,.int .i64 d.pl,.slice u d.hs.length v,.slice F d.ls.length N,.slice D d.gs.length L,.slice H d.ps.length P,.int .i64 d.nx,.slice z d.ga.length I,.slice A d.tk.length J] 51)):=(cf _ _).alloc (ce _) _;have n:=cg w (Obj.cells #[.slice G d.ns.length O,.slice E d.is.length M,.slice C d.ds.length K,.int .i64 d.pl,.slice u d.hs.length v,.slice F d.ls.length N,.slice D d.gs.length L,.slice H d.ps.length P,.int .i64 d.nx,.slice z d.ga.length I,.slice A d.tk.length J] 51);go_wp2_with fail
 generalize w.alloc (Obj.cells #[.slice G d.ns.length O,.slice E d.is.length M,.slice C d.ds.length K,.int .i64 d.pl,.slice u d.hs.length v,.slice F d.ls.length N,.slice D d.gs.length L,.slice H d.ps.length P,.int .i64 d.nx,.slice z d.ga.length I,.slice A d.tk.length J] 51)=y at *;have T:y.cell? ⟨w.heap.size,0+4,none⟩=some (.slice u d.hs.length v):=by rw [cd y _ 4 _ _ _ n];rfl
 have V:=(bl n)
 go_loopw [5] (fun i wr=>∃ k:Nat,k <= d.hs.length/\i=.int .i64 k/\Hid (ZaU d.hs p 0=ZaU (d.hs.drop k) p k)/\Below y.heap.size y wr) (fun i _=>d.hs.length - (intOf i).toNat)
 case atStart=>exact ⟨0,by omega,rfl,rfl,cf _ _⟩
 case round =>
  obtain ⟨k,hk,rfl,c,S⟩:=hrel;have Q:=j.trans (S.mono j.size);have ad:=(S.cell (p:=⟨w.heap.size,0+4,none⟩) V).trans T
  by_cases b:k < d.hs.length
  ·obtain ⟨g,o,rfl,_,hg,a⟩:=a (by intro e;rw [e] at b;simp at b)
   obtain ⟨x,l⟩:∃ x,d.hs[k]? = some x:=⟨d.hs[k],by simp [b]⟩;obtain ⟨cs,U,Z,v1,v2,v3,W,_⟩:=a k x l;obtain rfl:cs=(#[.int .i64 x.pl,.int .i64 x.i,v1,.int .i64 x.m.p,.int .i64 x.m.s,.int .i64 x.m.e,.int .i64 x.m.d,.int .i64 x.m.t,.int .i64 x.m.q,.int .i64 x.m.r,v2,v3]:Array Value).toList:=congrArg Array.toList W;have d1:wr.cell? ⟨g,o+k * 12+1,none⟩=some (.int .i64 x.i):=Zab Z Q hg 1 _ rfl;have d2:wr.cell? ⟨g,o+k * 12+1+0,none⟩=some (.int .i64 x.i):=d1;clear a W U Z;cases e:(x.i == p) with
   | true =>
    have f:Hid (ZaU d.hs p 0=k):=by unfold Hid;rw [c.out,ZeG d.hs p k x l e]
    clear l c;go_wp2;go_ret;exact ⟨by rw [f.out];rfl,Q⟩
   | false =>
    have f:Hid (ZaU d.hs p 0=ZaU (d.hs.drop (k+1)) p (k+1)):=by unfold Hid;rw [c.out,ZdA d.hs p k x l e]
    clear l c;go_wp2
    go_roundw
    case rel=>exact ⟨k+1,by omega,by go_num,f,S⟩
    case measure=>simp [intOf];omega
  ·have f:Hid (ZaU d.hs p 0 = -1):=by unfold Hid;rw [c.out,ZeF d.hs p k (by omega)]
   clear c a;go_wp2;go_ret;exact ⟨by rw [f.out];rfl,Q⟩
theorem ZcD (x:Hm)(c f g:Value)(p:Int)(q:Nat)(w:World)(k:w.cell? ⟨q,0,none⟩=some (.int .i64 p))(j:q < w.heap.size) :
  Calls prog 65 #[.agg #[.int .i64 x.pl,.int .i64 x.i,c,.int .i64 x.m.p,.int .i64 x.m.s,.int .i64 x.m.e,.int .i64 x.m.d,.int .i64 x.m.t,.int .i64 x.m.q,.int .i64 x.m.r,f,g],.pointer (some ⟨q,0,none⟩)] w fun e l=>e=.returned (.bool (x.i == p))/\Below w.heap.size w l:=by
 have b:=cg w (Obj.cells #[.int .i64 x.pl,.int .i64 x.i,c,.int .i64 x.m.p,.int .i64 x.m.s,.int .i64 x.m.e,.int .i64 x.m.d,.int .i64 x.m.t,.int .i64 x.m.q,.int .i64 x.m.r,f,g] 70);have a:Below w.heap.size w (w.alloc (Obj.cells #[.int .i64 x.pl,.int .i64 x.i,c,.int .i64 x.m.p,.int .i64 x.m.s,.int .i64 x.m.e,.int .i64 x.m.d,.int .i64 x.m.t,.int .i64 x.m.q,.int .i64 x.m.r,f,g] 70)):=(cf _ _).alloc (ce _) _;have n:(w.alloc (Obj.cells #[.int .i64 x.pl,.int .i64 x.i,c,.int .i64 x.m.p,.int .i64 x.m.s,.int .i64 x.m.e,.int .i64 x.m.d,.int .i64 x.m.t,.int .i64 x.m.q,.int .i64 x.m.r,f,g] 70)).cell? ⟨w.heap.size,1,none⟩=some (.int .i64 x.i):=cd _ _ 1 _ _ _ b;have o:=(a.cell (p:=⟨q,0,none⟩) j).trans k;clear b
 go_enter func65,ntmps65
 go_wp2;go_ret;exact ⟨rfl,a⟩
theorem Zg7 (v:Value)(b:List Hm)(p:Int)(q B:Nat)(w:World)(R:XRow B 12 EH w v b)(N:w.cell? ⟨q,0,none⟩=some (.int .i64 p))(J:q < w.heap.size) :
  Calls prog 64 #[v,.func (.func 65) #[] #[.pointer (some ⟨q,0,none⟩)]] w fun e O=>e=.returned (.int .i64 (ZaU b p 0))/\Below w.heap.size w O:=by
 obtain ⟨Q,K,rfl,I,T,a⟩:=R
 go_enter func64,ntmps64
 go_wp2_with fail
 go_loopw [8] (fun i wr=>∃ k:Nat,k <= b.length/\i=.int .i64 k/\Hid (ZaU b p 0=ZaU (b.drop k) p k)/\Below w.heap.size w wr) (fun i _=>b.length - (intOf i).toNat)
 case atStart=>exact ⟨0,by omega,rfl,rfl,cf _ _⟩
 case round =>
  obtain ⟨k,S,rfl,n,j⟩:=hrel;have f:=(j.cell (p:=⟨q,0,none⟩) J).trans N;have z:=cm J j.size
  by_cases A:k < b.length
  ·obtain ⟨g,o,rfl,_,M,a⟩:=a (by intro e;subst e;simp at A)
   obtain ⟨x,C⟩:∃ x,b[k]? = some x:=⟨b[k],by simp [A]⟩;obtain ⟨cs,D,u,E,F,G,H,_⟩:=a k x C;obtain rfl:cs=(#[.int .i64 x.pl,.int .i64 x.i,E,.int .i64 x.m.p,.int .i64 x.m.s,.int .i64 x.m.e,.int .i64 x.m.d,.int .i64 x.m.t,.int .i64 x.m.q,.int .i64 x.m.r,F,G]:Array Value).toList:=congrArg Array.toList H;replace u:=Zab u j M;clear a H D;cases e:(x.i == p) with
   | true =>
    have y:Hid (ZaU b p 0=k):=by unfold Hid;rw [n.out,ZeG b p k x C e]
    clear C n
    go_wp2_with (refine wpList_load_mid rfl 70 _ rfl g (o+k * 12) rfl _ _ u underlying70 rfl (by kernel_rfl) ?_)
    refine (ZcD x E F G p q _ f z).mono ?_;rintro L P ⟨rfl,c⟩;rw [e];have l:=j.trans (c.mono j.size);clear u f c;go_wp2;go_ret;exact ⟨by rw [y.out];rfl,l⟩
   | false =>
    have y:Hid (ZaU b p 0=ZaU (b.drop (k+1)) p (k+1)):=by unfold Hid;rw [n.out,ZdA b p k x C e]
    clear C n
    go_wp2_with (refine wpList_load_mid rfl 70 _ rfl g (o+k * 12) rfl _ _ u underlying70 rfl (by kernel_rfl) ?_)
    refine (ZcD x E F G p q _ f z).mono ?_;rintro L P ⟨rfl,c⟩;rw [e];have l:=j.trans (c.mono j.size);clear u f c;go_wp2
    go_roundw
    case rel=>exact ⟨k+1,by omega,by go_num,y,l⟩
    case measure=>simp [intOf];omega
  ·have y:Hid (ZaU b p 0 = -1):=by unfold Hid;rw [n.out,ZeF b p k (by omega)]
   clear n a;go_wp2;go_ret;exact ⟨by rw [y.out];rfl,j⟩
theorem ZfK (r o l n q m s k t:Value)(d:Wd)(p:Int)(B:Nat)(w:World)(R:WR B w r o l n q m s k t d) :
  Calls prog 27 #[.agg #[r,o,l,.int .i64 d.pl,n,q,m,s,.int .i64 d.nx,k,t],.int .i64 p] w fun e S=>e=.returned (.int .i64 (ZaU d.hs p 0))/\Below w.heap.size w S:=by
 have P:∀ (i:Fn) (first b:Array Value) (w:World),(Instr.makeFunc i first b).run prog w=.ok (.func i first b) w:=fun _ _ _ _=>rfl
 have u:=R.rh;obtain ⟨⟨E,N,rfl⟩,⟨C,L,rfl⟩,⟨y,I,rfl⟩,⟨A,K,rfl⟩,⟨D,M,rfl⟩,⟨z,J,rfl⟩,⟨F,O,rfl⟩,⟨v,G,rfl⟩,⟨x,H,rfl⟩⟩:=R.form;clear R;obtain ⟨a,Q,g⟩:=ZaC w (Obj.cells #[.slice E d.ns.length N,.slice C d.is.length L,.slice y d.ds.length I,.int .i64 d.pl,.slice A d.hs.length K,.slice D d.ls.length M,.slice z d.gs.length J,.slice F d.ps.length O,.int .i64 d.nx,.slice v d.ga.length G,.slice x d.tk.length H] 51) (Obj.cells #[.int .i64 p] 3);have j:=cd _ _ 0 _ _ _ g
 go_enter func27,ntmps27
 go_wp2_with fail;refine (Zg7 _ d.hs p (w.heap.size+1) B _ (u.below stbH a) j (bl g)).mono ?_;rintro e T ⟨rfl,c⟩;have f:=a.trans (c.mono a.size);clear a c Q g j;go_wp2;go_ret;exact ⟨rfl,f⟩
end Go.Proofs.YtanhoamdlhaaeaaGreatDoor
