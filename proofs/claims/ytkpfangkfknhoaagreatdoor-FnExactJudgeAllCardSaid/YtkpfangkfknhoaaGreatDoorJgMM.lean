/-
  Texts that stood by themselves, laid into one.
-/
import Derived.Test.YtkpfangkfknhoaaGreatDoorWOkSM
import Derived.Test.YtkpfangkfknhoaaGreatDoorWOkLM
import Derived.Test.YtkpfangkfknhoaaGreatDoorMach2M
import Derived.Test.YtkpfangkfknhoaaGreatDoorSEqM
import Derived.Lib.SlicesCompact
/-
  Contracts of impl.WorldOk and spec.WorldOk. The variable errors.errorType reads as it is laid.
-/
set_option maxRecDepth 100000
set_option maxHeartbeats 6400000
namespace Go.Proofs.YtkpfangkfknhoaaGreatDoor
open Go.Proofs.Tryz
open Go.RowKit
def Zaq (d:Wd):Bool:=(ZaY d.ns d.is d.ds && (ZbA d.pl && pidB d.nx)) && ((d.hs.all (hmB d.ns d.is d.ds d.pl) && decide (d.hs.length <= 8)) && (lksB d && ((d.gs.all (gmB d.pl) && decide (d.gs.length <= 12)) && (d.ps.all (pdB d.pl) && decide (d.ps.length <= 20)))))
theorem ZlI {n:Int}{b:Bool}(h:(decide (1 <= n) && decide (n <= 1000000000))=b):pidB n=b:=by
 unfold pidB;rw [<- h,Bool.eq_iff_iff];simp
theorem Zcl {a:Int}(h:ZbA a=true):1 <= a/\a <= 3:=by
 unfold ZbA at h;simp at h;exact h
theorem Zf0 (vn vi vf vh vl vg vp va vt:Value)(d:Wd)(B:Nat)(w:World)(R:WR B w vn vi vf vh vl vg vp va vt d)(af:∀ x ∈ d.hs,SmH x)(hg:ErrT w) :
  Calls prog 53 #[.agg #[vn,vi,vf,.int .i64 d.pl,vh,vl,vg,vp,.int .i64 d.nx,va,vt]] w fun e w'=>e=.returned (.bool (Zaq d))/\Below w.heap.size w w':=by
 have T:=R;obtain ⟨⟨D,m,rfl⟩,⟨r,o,rfl⟩,⟨F,l,rfl⟩,⟨J,I,rfl⟩,⟨Q,O,rfl⟩,⟨M,L,rfl⟩,⟨H,P,rfl⟩,⟨S,G,rfl⟩,⟨K,N,rfl⟩⟩:=R.form;have h:=Zap w (Obj.cells #[.slice D d.ns.length m,.slice r d.is.length o,.slice F d.ds.length l,.int .i64 d.pl,.slice J d.hs.length I,.slice Q d.ls.length O,.slice M d.gs.length L,.slice H d.ps.length P,.int .i64 d.nx,.slice S d.ga.length G,.slice K d.tk.length N] 50);have a:=co w (Obj.cells #[.slice D d.ns.length m,.slice r d.is.length o,.slice F d.ds.length l,.int .i64 d.pl,.slice J d.hs.length I,.slice Q d.ls.length O,.slice M d.gs.length L,.slice H d.ps.length P,.int .i64 d.nx,.slice S d.ga.length G,.slice K d.tk.length N] 50)
 go_enter func53,ntmps53
 go_wp2_with (refine Zam rfl 44 _ rfl w.heap.size 0 rfl _ 50 #[.slice D d.ns.length m,.slice r d.is.length o,.slice F d.ds.length l] _ a rfl underlying44 rfl Znu ?_)
 refine (Zd0 _ _ _ d.ns d.is d.ds _ (T.rn.below h) (T.ri.below h) (T.rf.below h)).mono ?_;rintro e ai ⟨rfl,k⟩;replace a:=Zaa a k;replace h:=h.trans (k.mono h.size);clear k;obtain ⟨ad,Y⟩:∃ b,ZaY d.ns d.is d.ds=b:=⟨_,rfl⟩;rw [Y];cases ad with
 | false =>
  have y:Hid (Zaq d=false):=by
   unfold Hid Zaq;rw [Y];rfl
  go_wp2;go_ret;exact ⟨by rw [y.out];rfl,h⟩
 | true =>
  have kc:ai.cell? ⟨w.heap.size,0+3,none⟩=some (.int .i64 d.pl):=cd _ _ 3 _ _ _ a;go_wp2_with fail;clear kc;refine (ZeQ d.pl _).mono ?_;rintro e j ⟨rfl,rfl⟩;obtain ⟨aa,W⟩:∃ b,ZbA d.pl=b:=⟨_,rfl⟩;rw [W];cases aa with
  | false =>
   have y:Hid (Zaq d=false):=by
    unfold Hid Zaq;rw [Y,W];rfl
   go_wp2;go_ret;exact ⟨by rw [y.out];rfl,h⟩
  | true =>
   have U:=Zcl W;have t:j.cell? ⟨w.heap.size,0,none⟩=some (.slice D d.ns.length m):=cd j _ 0 _ _ _ a;have A:j.cell? ⟨w.heap.size,1,none⟩=some (.slice r d.is.length o):=cd j _ 1 _ _ _ a;have u:j.cell? ⟨w.heap.size,2,none⟩=some (.slice F d.ds.length l):=cd j _ 2 _ _ _ a;have C:j.cell? ⟨w.heap.size,3,none⟩=some (.int .i64 d.pl):=cd j _ 3 _ _ _ a;have s:j.cell? ⟨w.heap.size,4,none⟩=some (.slice J d.hs.length I):=cd j _ 4 _ _ _ a;have p:j.cell? ⟨w.heap.size,5,none⟩=some (.slice Q d.ls.length O):=cd j _ 5 _ _ _ a;have n:j.cell? ⟨w.heap.size,6,none⟩=some (.slice M d.gs.length L):=cd j _ 6 _ _ _ a;have E:j.cell? ⟨w.heap.size,7,none⟩=some (.slice H d.ps.length P):=cd j _ 7 _ _ _ a;have z:j.cell? ⟨w.heap.size,8,none⟩=some (.int .i64 d.nx):=cd j _ 8 _ _ _ a
   have v:j.cell? ⟨w.heap.size,9,none⟩=some (.slice S d.ga.length G):=cd j _ 9 _ _ _ a;have i:j.cell? ⟨w.heap.size,10,none⟩=some (.slice K d.tk.length N):=cd j _ 10 _ _ _ a;go_wp2_with fail;clear t A u C s p n E z v i;refine (Zfq _ _ _ _ _ _ _ _ _ d B _ (T.below h) af (hg.below h (ce _))).mono ?_;rintro e f ⟨rfl,k⟩;replace a:=Zaa a k;replace h:=h.trans (k.mono h.size);clear k;obtain ⟨ac,X⟩:∃ b,(decide (d.hs.length <= 8) && d.hs.all (hmB d.ns d.is d.ds d.pl))=b:=⟨_,rfl⟩;rw [X];cases ac with
   | false =>
    have y:Hid (Zaq d=false):=by
     unfold Hid Zaq;have q:(d.hs.all (hmB d.ns d.is d.ds d.pl) && decide (d.hs.length <= 8))=false:=by rw [Bool.and_comm];exact X
     rw [q];simp
    go_wp2;go_ret;exact ⟨by rw [y.out];rfl,h⟩
   | true =>
    have t:f.cell? ⟨w.heap.size,0,none⟩=some (.slice D d.ns.length m):=cd f _ 0 _ _ _ a;have A:f.cell? ⟨w.heap.size,1,none⟩=some (.slice r d.is.length o):=cd f _ 1 _ _ _ a;have u:f.cell? ⟨w.heap.size,2,none⟩=some (.slice F d.ds.length l):=cd f _ 2 _ _ _ a;have C:f.cell? ⟨w.heap.size,3,none⟩=some (.int .i64 d.pl):=cd f _ 3 _ _ _ a;have s:f.cell? ⟨w.heap.size,4,none⟩=some (.slice J d.hs.length I):=cd f _ 4 _ _ _ a;have p:f.cell? ⟨w.heap.size,5,none⟩=some (.slice Q d.ls.length O):=cd f _ 5 _ _ _ a;have n:f.cell? ⟨w.heap.size,6,none⟩=some (.slice M d.gs.length L):=cd f _ 6 _ _ _ a;have E:f.cell? ⟨w.heap.size,7,none⟩=some (.slice H d.ps.length P):=cd f _ 7 _ _ _ a;have z:f.cell? ⟨w.heap.size,8,none⟩=some (.int .i64 d.nx):=cd f _ 8 _ _ _ a
    have v:f.cell? ⟨w.heap.size,9,none⟩=some (.slice S d.ga.length G):=cd f _ 9 _ _ _ a;have i:f.cell? ⟨w.heap.size,10,none⟩=some (.slice K d.tk.length N):=cd f _ 10 _ _ _ a;go_wp2_with fail;clear t A u C s p n E z v i;refine (Zfv _ _ _ _ _ _ _ _ _ d B _ (T.below h) U.1 U.2).mono ?_;rintro e g ⟨rfl,k⟩;replace a:=Zaa a k;replace h:=h.trans (k.mono h.size);clear k;obtain ⟨ab,h4⟩:∃ b,lksB d=b:=⟨_,rfl⟩;rw [h4];cases ab with
    | false =>
     have y:Hid (Zaq d=false):=by
      unfold Hid Zaq;rw [h4];simp
     go_wp2;go_ret;exact ⟨by rw [y.out];rfl,h⟩
    | true =>
     have t:g.cell? ⟨w.heap.size,0,none⟩=some (.slice D d.ns.length m):=cd g _ 0 _ _ _ a;have A:g.cell? ⟨w.heap.size,1,none⟩=some (.slice r d.is.length o):=cd g _ 1 _ _ _ a;have u:g.cell? ⟨w.heap.size,2,none⟩=some (.slice F d.ds.length l):=cd g _ 2 _ _ _ a;have C:g.cell? ⟨w.heap.size,3,none⟩=some (.int .i64 d.pl):=cd g _ 3 _ _ _ a;have s:g.cell? ⟨w.heap.size,4,none⟩=some (.slice J d.hs.length I):=cd g _ 4 _ _ _ a;have p:g.cell? ⟨w.heap.size,5,none⟩=some (.slice Q d.ls.length O):=cd g _ 5 _ _ _ a;have n:g.cell? ⟨w.heap.size,6,none⟩=some (.slice M d.gs.length L):=cd g _ 6 _ _ _ a;have E:g.cell? ⟨w.heap.size,7,none⟩=some (.slice H d.ps.length P):=cd g _ 7 _ _ _ a;have z:g.cell? ⟨w.heap.size,8,none⟩=some (.int .i64 d.nx):=cd g _ 8 _ _ _ a
     have v:g.cell? ⟨w.heap.size,9,none⟩=some (.slice S d.ga.length G):=cd g _ 9 _ _ _ a;have i:g.cell? ⟨w.heap.size,10,none⟩=some (.slice K d.tk.length N):=cd g _ 10 _ _ _ a;go_wp2_with fail;clear t A u C s p n E z v i;refine (Zgm _ _ _ _ _ _ _ _ _ d B _ (T.below h)).mono ?_;rintro e c ⟨rfl,k⟩;replace a:=Zaa a k;replace h:=h.trans (k.mono h.size);clear k;obtain ⟨ah,V⟩:∃ b,(decide (d.gs.length <= 12) && d.gs.all (gmB d.pl))=b:=⟨_,rfl⟩;rw [V];cases ah with
     | false =>
      have y:Hid (Zaq d=false):=by
       unfold Hid Zaq;have q:(d.gs.all (gmB d.pl) && decide (d.gs.length <= 12))=false:=by rw [Bool.and_comm];exact V
       rw [q];simp
      go_wp2;go_ret;exact ⟨by rw [y.out];rfl,h⟩
     | true =>
      have t:c.cell? ⟨w.heap.size,0,none⟩=some (.slice D d.ns.length m):=cd c _ 0 _ _ _ a;have A:c.cell? ⟨w.heap.size,1,none⟩=some (.slice r d.is.length o):=cd c _ 1 _ _ _ a;have u:c.cell? ⟨w.heap.size,2,none⟩=some (.slice F d.ds.length l):=cd c _ 2 _ _ _ a;have C:c.cell? ⟨w.heap.size,3,none⟩=some (.int .i64 d.pl):=cd c _ 3 _ _ _ a;have s:c.cell? ⟨w.heap.size,4,none⟩=some (.slice J d.hs.length I):=cd c _ 4 _ _ _ a;have p:c.cell? ⟨w.heap.size,5,none⟩=some (.slice Q d.ls.length O):=cd c _ 5 _ _ _ a;have n:c.cell? ⟨w.heap.size,6,none⟩=some (.slice M d.gs.length L):=cd c _ 6 _ _ _ a;have E:c.cell? ⟨w.heap.size,7,none⟩=some (.slice H d.ps.length P):=cd c _ 7 _ _ _ a;have z:c.cell? ⟨w.heap.size,8,none⟩=some (.int .i64 d.nx):=cd c _ 8 _ _ _ a
      have v:c.cell? ⟨w.heap.size,9,none⟩=some (.slice S d.ga.length G):=cd c _ 9 _ _ _ a;have i:c.cell? ⟨w.heap.size,10,none⟩=some (.slice K d.tk.length N):=cd c _ 10 _ _ _ a;go_wp2_with fail;clear t A u C s p n E z v i;refine (Zd8 _ _ _ _ _ _ _ _ _ d B _ (T.below h)).mono ?_;rintro e ag ⟨rfl,k⟩;replace a:=Zaa a k;replace h:=h.trans (k.mono h.size);clear k;obtain ⟨aj,Z⟩:∃ b,(decide (d.ps.length <= 20) && d.ps.all (pdB d.pl))=b:=⟨_,rfl⟩;rw [Z];cases aj with
      | false =>
       have y:Hid (Zaq d=false):=by
        unfold Hid Zaq;have q:(d.ps.all (pdB d.pl) && decide (d.ps.length <= 20))=false:=by rw [Bool.and_comm];exact Z
        rw [q];simp
       go_wp2;go_ret;exact ⟨by rw [y.out];rfl,h⟩
      | true =>
       have kc:ag.cell? ⟨w.heap.size,0+8,none⟩=some (.int .i64 d.nx):=cd _ _ 8 _ _ _ a;go_wp2_with fail;clear kc;refine (ZfR d.nx _).mono ?_;rintro e j ⟨rfl,rfl⟩;obtain ⟨ae,h7⟩:∃ b,pidB d.nx=b:=⟨_,rfl⟩;rw [h7];cases ae with
       | false =>
        have y:Hid (Zaq d=false):=by
         unfold Hid Zaq;rw [h7];simp
        go_wp2;go_ret;exact ⟨by rw [y.out];rfl,h⟩
       | true =>
        have y:Hid (Zaq d=true):=by unfold Hid Zaq;rw [Bool.and_comm] at X V Z;rw [Y,W,h4,h7,X,V,Z];rfl
        go_wp2;go_ret;exact ⟨by rw [y.out];rfl,h⟩
theorem ZfE (vn vi vf vh vl vg vp va vt:Value)(d:Wd)(B:Nat)(w:World)(R:WR B w vn vi vf vh vl vg vp va vt d)(ad:∀ x ∈ d.hs,SmH x) :
  Calls prog 42 #[.agg #[vn,vi,vf,.int .i64 d.pl,vh,vl,vg,vp,.int .i64 d.nx,va,vt]] w fun e w'=>e=.returned (.bool (Zaq d))/\Below w.heap.size w w':=by
 have T:=R;obtain ⟨⟨l,i,rfl⟩,⟨k,j,rfl⟩,⟨m,h,rfl⟩,⟨r,p,rfl⟩,⟨C,z,rfl⟩,⟨v,u,rfl⟩,⟨o,A,rfl⟩,⟨D,n,rfl⟩,⟨s,y,rfl⟩⟩:=R.form;have t:=Zap w (Obj.cells #[.slice l d.ns.length i,.slice k d.is.length j,.slice m d.ds.length h,.int .i64 d.pl,.slice r d.hs.length p,.slice C d.ls.length z,.slice v d.gs.length u,.slice o d.ps.length A,.int .i64 d.nx,.slice D d.ga.length n,.slice s d.tk.length y] 50);have c:=co w (Obj.cells #[.slice l d.ns.length i,.slice k d.is.length j,.slice m d.ds.length h,.int .i64 d.pl,.slice r d.hs.length p,.slice C d.ls.length z,.slice v d.gs.length u,.slice o d.ps.length A,.int .i64 d.nx,.slice D d.ga.length n,.slice s d.tk.length y] 50)
 go_enter func42,ntmps42
 go_wp2_with fail;refine (Zas _ _ _ _).mono ?_;rintro e wE ⟨rfl,rfl⟩;obtain ⟨Y,V⟩:∃ b,(decide (1 <= d.pl) && decide (d.pl <= 3))=b:=⟨_,rfl⟩;rw [V];cases Y with
 | false =>
  have J:Hid (Zaq d=false):=by
   unfold Hid Zaq;have q:ZbA d.pl=false:=V;rw [q];simp
  go_wp2;go_ret;exact ⟨by rw [J.out];rfl,t⟩
 | true =>
  have kc:(w.alloc (Obj.cells #[.slice l d.ns.length i,.slice k d.is.length j,.slice m d.ds.length h,.int .i64 d.pl,.slice r d.hs.length p,.slice C d.ls.length z,.slice v d.gs.length u,.slice o d.ps.length A,.int .i64 d.nx,.slice D d.ga.length n,.slice s d.tk.length y] 50)).cell? ⟨w.heap.size,0+8,none⟩=some (.int .i64 d.nx):=cd _ _ 8 _ _ _ c;go_wp2_with fail;clear kc;refine (Zas _ _ _ _).mono ?_;rintro e wE ⟨rfl,rfl⟩;obtain ⟨ab,X⟩:∃ b,(decide (1 <= d.nx) && decide (d.nx <= 1000000000))=b:=⟨_,rfl⟩;rw [X];cases ab with
  | false =>
   have J:Hid (Zaq d=false):=by
    unfold Hid Zaq;rw [ZlI X];simp
   go_wp2;go_ret;exact ⟨by rw [J.out];rfl,t⟩
  | true =>
   have K:=Zcl V;have F:(w.alloc (Obj.cells #[.slice l d.ns.length i,.slice k d.is.length j,.slice m d.ds.length h,.int .i64 d.pl,.slice r d.hs.length p,.slice C d.ls.length z,.slice v d.gs.length u,.slice o d.ps.length A,.int .i64 d.nx,.slice D d.ga.length n,.slice s d.tk.length y] 50)).cell? ⟨w.heap.size,0,none⟩=some (.slice l d.ns.length i):=cd (w.alloc (Obj.cells #[.slice l d.ns.length i,.slice k d.is.length j,.slice m d.ds.length h,.int .i64 d.pl,.slice r d.hs.length p,.slice C d.ls.length z,.slice v d.gs.length u,.slice o d.ps.length A,.int .i64 d.nx,.slice D d.ga.length n,.slice s d.tk.length y] 50)) _ 0 _ _ _ c
   have H:(w.alloc (Obj.cells #[.slice l d.ns.length i,.slice k d.is.length j,.slice m d.ds.length h,.int .i64 d.pl,.slice r d.hs.length p,.slice C d.ls.length z,.slice v d.gs.length u,.slice o d.ps.length A,.int .i64 d.nx,.slice D d.ga.length n,.slice s d.tk.length y] 50)).cell? ⟨w.heap.size,1,none⟩=some (.slice k d.is.length j):=cd (w.alloc (Obj.cells #[.slice l d.ns.length i,.slice k d.is.length j,.slice m d.ds.length h,.int .i64 d.pl,.slice r d.hs.length p,.slice C d.ls.length z,.slice v d.gs.length u,.slice o d.ps.length A,.int .i64 d.nx,.slice D d.ga.length n,.slice s d.tk.length y] 50)) _ 1 _ _ _ c
   have G:(w.alloc (Obj.cells #[.slice l d.ns.length i,.slice k d.is.length j,.slice m d.ds.length h,.int .i64 d.pl,.slice r d.hs.length p,.slice C d.ls.length z,.slice v d.gs.length u,.slice o d.ps.length A,.int .i64 d.nx,.slice D d.ga.length n,.slice s d.tk.length y] 50)).cell? ⟨w.heap.size,2,none⟩=some (.slice m d.ds.length h):=cd (w.alloc (Obj.cells #[.slice l d.ns.length i,.slice k d.is.length j,.slice m d.ds.length h,.int .i64 d.pl,.slice r d.hs.length p,.slice C d.ls.length z,.slice v d.gs.length u,.slice o d.ps.length A,.int .i64 d.nx,.slice D d.ga.length n,.slice s d.tk.length y] 50)) _ 2 _ _ _ c;go_wp2_with fail;clear F H G;refine (Zd2 _ _ _ d.ns d.is d.ds _ (T.rn.below t) (T.ri.below t) (T.rf.below t)).mono ?_;rintro e f ⟨rfl,I⟩;replace c:=Zaa c I;replace t:=t.trans (I.mono t.size);clear I
   obtain ⟨ac,h1⟩:∃ b,ZaY d.ns d.is d.ds=b:=⟨_,rfl⟩;rw [h1];cases ac with
   | false =>
    have J:Hid (Zaq d=false):=by
     unfold Hid Zaq;rw [h1];rfl
    go_wp2;go_ret;exact ⟨by rw [J.out];rfl,t⟩
   | true =>
    have F:f.cell? ⟨w.heap.size,0,none⟩=some (.slice l d.ns.length i):=cd f _ 0 _ _ _ c;have H:f.cell? ⟨w.heap.size,1,none⟩=some (.slice k d.is.length j):=cd f _ 1 _ _ _ c;have G:f.cell? ⟨w.heap.size,2,none⟩=some (.slice m d.ds.length h):=cd f _ 2 _ _ _ c;have Q:f.cell? ⟨w.heap.size,3,none⟩=some (.int .i64 d.pl):=cd f _ 3 _ _ _ c;have N:f.cell? ⟨w.heap.size,4,none⟩=some (.slice r d.hs.length p):=cd f _ 4 _ _ _ c;have M:f.cell? ⟨w.heap.size,5,none⟩=some (.slice C d.ls.length z):=cd f _ 5 _ _ _ c;have L:f.cell? ⟨w.heap.size,6,none⟩=some (.slice v d.gs.length u):=cd f _ 6 _ _ _ c;have S:f.cell? ⟨w.heap.size,7,none⟩=some (.slice o d.ps.length A):=cd f _ 7 _ _ _ c;have P:f.cell? ⟨w.heap.size,8,none⟩=some (.int .i64 d.nx):=cd f _ 8 _ _ _ c
    have O:f.cell? ⟨w.heap.size,9,none⟩=some (.slice D d.ga.length n):=cd f _ 9 _ _ _ c;have E:f.cell? ⟨w.heap.size,10,none⟩=some (.slice s d.tk.length y):=cd f _ 10 _ _ _ c;go_wp2_with fail;clear F H G Q N M L S P O E;refine (ZfV _ _ _ _ _ _ _ _ _ d B _ (T.below t) K.1 K.2 ad).mono ?_;rintro e a ⟨rfl,I⟩;replace c:=Zaa c I;replace t:=t.trans (I.mono t.size);clear I;obtain ⟨aa,h3⟩:∃ b,(d.hs.all (hmB d.ns d.is d.ds d.pl) && decide (d.hs.length <= 8))=b:=⟨_,rfl⟩;rw [h3];cases aa with
    | false =>
     have J:Hid (Zaq d=false):=by
      unfold Hid Zaq;rw [h3];simp
     go_wp2;go_ret;exact ⟨by rw [J.out];rfl,t⟩
    | true =>
     have F:a.cell? ⟨w.heap.size,0,none⟩=some (.slice l d.ns.length i):=cd a _ 0 _ _ _ c;have H:a.cell? ⟨w.heap.size,1,none⟩=some (.slice k d.is.length j):=cd a _ 1 _ _ _ c;have G:a.cell? ⟨w.heap.size,2,none⟩=some (.slice m d.ds.length h):=cd a _ 2 _ _ _ c;have Q:a.cell? ⟨w.heap.size,3,none⟩=some (.int .i64 d.pl):=cd a _ 3 _ _ _ c;have N:a.cell? ⟨w.heap.size,4,none⟩=some (.slice r d.hs.length p):=cd a _ 4 _ _ _ c;have M:a.cell? ⟨w.heap.size,5,none⟩=some (.slice C d.ls.length z):=cd a _ 5 _ _ _ c;have L:a.cell? ⟨w.heap.size,6,none⟩=some (.slice v d.gs.length u):=cd a _ 6 _ _ _ c;have S:a.cell? ⟨w.heap.size,7,none⟩=some (.slice o d.ps.length A):=cd a _ 7 _ _ _ c;have P:a.cell? ⟨w.heap.size,8,none⟩=some (.int .i64 d.nx):=cd a _ 8 _ _ _ c
     have O:a.cell? ⟨w.heap.size,9,none⟩=some (.slice D d.ga.length n):=cd a _ 9 _ _ _ c;have E:a.cell? ⟨w.heap.size,10,none⟩=some (.slice s d.tk.length y):=cd a _ 10 _ _ _ c;go_wp2_with fail;clear F H G Q N M L S P O E;refine (Zgj _ _ _ _ _ _ _ _ _ d B _ (T.below t) K.1 K.2).mono ?_;rintro e g ⟨rfl,I⟩;replace c:=Zaa c I;replace t:=t.trans (I.mono t.size);clear I;obtain ⟨Z,h4⟩:∃ b,lksB d=b:=⟨_,rfl⟩;rw [h4];cases Z with
     | false =>
      have J:Hid (Zaq d=false):=by
       unfold Hid Zaq;rw [h4];simp
      go_wp2;go_ret;exact ⟨by rw [J.out];rfl,t⟩
     | true =>
      have F:g.cell? ⟨w.heap.size,0,none⟩=some (.slice l d.ns.length i):=cd g _ 0 _ _ _ c;have H:g.cell? ⟨w.heap.size,1,none⟩=some (.slice k d.is.length j):=cd g _ 1 _ _ _ c;have G:g.cell? ⟨w.heap.size,2,none⟩=some (.slice m d.ds.length h):=cd g _ 2 _ _ _ c;have Q:g.cell? ⟨w.heap.size,3,none⟩=some (.int .i64 d.pl):=cd g _ 3 _ _ _ c;have N:g.cell? ⟨w.heap.size,4,none⟩=some (.slice r d.hs.length p):=cd g _ 4 _ _ _ c;have M:g.cell? ⟨w.heap.size,5,none⟩=some (.slice C d.ls.length z):=cd g _ 5 _ _ _ c;have L:g.cell? ⟨w.heap.size,6,none⟩=some (.slice v d.gs.length u):=cd g _ 6 _ _ _ c;have S:g.cell? ⟨w.heap.size,7,none⟩=some (.slice o d.ps.length A):=cd g _ 7 _ _ _ c;have P:g.cell? ⟨w.heap.size,8,none⟩=some (.int .i64 d.nx):=cd g _ 8 _ _ _ c
      have O:g.cell? ⟨w.heap.size,9,none⟩=some (.slice D d.ga.length n):=cd g _ 9 _ _ _ c;have E:g.cell? ⟨w.heap.size,10,none⟩=some (.slice s d.tk.length y):=cd g _ 10 _ _ _ c;go_wp2_with fail;clear F H G Q N M L S P O E;refine (Zgn _ _ _ _ _ _ _ _ _ d B _ (T.below t) K.1 K.2).mono ?_;rintro e af ⟨rfl,I⟩;replace c:=Zaa c I;replace t:=t.trans (I.mono t.size);clear I;obtain ⟨ae,U⟩:∃ b,((d.gs.all (gmB d.pl) && d.ps.all (pdB d.pl)) && (decide (d.gs.length <= 12) && decide (d.ps.length <= 20)))=b:=⟨_,rfl⟩;rw [U];cases ae with
      | false =>
       have J:Hid (Zaq d=false):=by
        unfold Hid Zaq;cases q1:d.gs.all (gmB d.pl) <;> cases W:d.ps.all (pdB d.pl) <;> cases q3:decide (d.gs.length <= 12) <;> cases q4:decide (d.ps.length <= 20) <;> simp [q1,W,q3,q4] at U ⊢
       go_wp2;go_ret;exact ⟨by rw [J.out];rfl,t⟩
      | true =>
       have J:Hid (Zaq d=true):=by unfold Hid Zaq;have W:ZbA d.pl=true:=V;simp only [Bool.and_eq_true] at U;obtain ⟨⟨g1,g2⟩,g3,g4⟩:=U;rw [h1,h4,W,ZlI X,h3,g1,g2,g3,g4];rfl
       go_wp2;go_ret;exact ⟨by rw [J.out];rfl,t⟩
def allN (f:Nat -> Bool):Nat -> Nat -> Bool
 | 0,_=>true
 | n+1,i=>f i && allN f n (i+1)
theorem ZmU {f:Nat -> Bool}{m k:Nat}(b:k < m):allN f (m - k) k=(f k && allN f (m - (k+1)) (k+1)):=by
 obtain ⟨n,a⟩:∃ n,m - k=n+1:=⟨m - k - 1,by omega⟩;rw [a,allN,show m - (k+1)=n by omega]
theorem ZmX {f:Nat -> Bool}{m k:Nat}(a:m <= k):allN f (m - k) k=true:=by
 rw [show m - k=0 by omega,allN]
def Zl4 (d:Wd)(i:Nat):Bool:=eqTs (d.tk.getD i []) ((d.ga.getD i []).take (d.tk.getD i []).length)
def ordB (d:Wd):Bool:=allN (Zl4 d) d.ls.length 0
theorem ZmY {d:Wd}{i:Nat}{us ts:List ByteArray}(a:d.tk[i]? = some us)(b:d.ga[i]? = some ts):Zl4 d i=eqTs us (ts.take us.length):=by
 unfold Zl4;rw [List.getD_eq_getElem?_getD,List.getD_eq_getElem?_getD,a,b];rfl
def hAt (h:List Pc)(ts:List ByteArray):Bool:=h.all fun p=>p.s.toList == (ts.getD p.n.toNat ⟨#[]⟩).toList
def qAt (l:Lk)(ts:List ByteArray):Bool:=eqTs l.q (ts.drop l.acked.toNat)
def hqAt (l:Lk)(ts:List ByteArray):Bool:=hAt l.h ts && qAt l ts
def quAt (d:Wd)(i:Nat):Bool:=match d.ls[i]? with
 | some l=>hqAt l (d.ga.getD i [])
 | none=>true
def queB (d:Wd):Bool:=allN (quAt d) d.ls.length 0
theorem Zm3 {d:Wd}{i:Nat}{l:Lk}{ts:List ByteArray}(a:d.ls[i]? = some l)(b:d.ga[i]? = some ts):quAt d i=hqAt l ts:=by
 unfold quAt;rw [a,List.getD_eq_getElem?_getD,b];rfl
structure LkAll (d:Wd):Prop where
 lg:d.ga.length=d.ls.length
 lt:d.tk.length=d.ls.length
 at':∀ (k:Nat) (l:Lk),d.ls[k]? = some l -> Za4 l=true/\(((d.ga.getD k []).length:Int)=l.sent)/\(((d.tk.getD k []).length:Int)=l.got)
theorem Zcq {d:Wd}(h:Zaq d=true):LkAll d:=by
 have a:lksB d=true:=by
  unfold Zaq at h;simp only [Bool.and_eq_true] at h;exact h.2.2.1
 unfold lksB at a;simp only [Bool.and_eq_true,decide_eq_true_eq] at a;obtain ⟨⟨g,f,i⟩,e⟩:=a;refine ⟨by omega,by omega,fun k l c=>?_⟩;have b:(l,k) ∈ d.ls.zipIdx:=List.mem_of_getElem? (Zjd c);have:=List.all_eq_true.1 e _ b;unfold lkB at this;simp only [Bool.and_eq_true,decide_eq_true_eq] at this;exact ⟨this.1,this.2.1,this.2.2⟩
theorem LkAll.ts {d:Wd}(L:LkAll d){k:Nat}{l:Lk}{ts:List ByteArray}(b:d.ls[k]? = some l)(e:d.ga[k]? = some ts):Za4 l=true/\(ts.length:Int)=l.sent:=by
 obtain ⟨c,a,_⟩:=L.at' k l b;rw [List.getD_eq_getElem?_getD,e] at a;exact ⟨c,a⟩
theorem LkAll.us {d:Wd}(L:LkAll d){k:Nat}{l:Lk}{us:List ByteArray}(c:d.ls[k]? = some l)(b:d.tk[k]? = some us):(us.length:Int)=l.got:=by
 obtain ⟨_,_,a⟩:=L.at' k l c;rw [List.getD_eq_getElem?_getD,b] at a;exact a
theorem Zg9 {e:Int}:∀ {h:List Pc} {last:Int},ZbF e last h=true -> ∀ p ∈ h,last < p.n/\p.n < e
 | [],_,_,p,a=>by cases a
 | q :: h,last,hh,p,a=>by
  rw [ZbF] at hh;simp only [Bool.and_eq_true,decide_eq_true_eq] at hh;rcases List.mem_cons.1 a with rfl | a
  ·exact ⟨hh.1,hh.2.1⟩
  ·have:=Zg9 hh.2.2 p a
   omega
theorem Zng {l:Lk}(h:Za4 l=true):∀ p ∈ l.h,0 <= p.n/\p.n < l.sent:=by
 intro p b;have c:=Za7 h;unfold Za4 at h;simp only [Bool.and_eq_true] at h;have:=Zg9 h.2 p b;have a:lend l <= l.sent:=by unfold lend;split <;> omega
 omega
def mvs (d:Wd)(ts:List ByteArray):List Int:=(ts.map (movN d.ns d.is d.ds)).filter (· ≠ 0)
def wayP (d:Wd):Nat -> Nat -> List Int
 | 0,_=>[]
 | n+1,i=>mvs d (wayT d i) ++ wayP d n (i+1)
theorem ZdP {d:Wd}{m k:Nat}(b:k < m):wayP d (m - k) k=mvs d (wayT d k) ++ wayP d (m - (k+1)) (k+1):=by
 obtain ⟨n,a⟩:∃ n,m - k=n+1:=⟨m - k - 1,by omega⟩;rw [a,wayP,show m - (k+1)=n by omega]
theorem Zfo {d:Wd}{m k:Nat}(a:m <= k):wayP d (m - k) k=[]:=by
 rw [show m - k=0 by omega,wayP]
theorem Ze3 {d:Wd}{ts:List ByteArray}{j:Nat}{s:ByteArray}(h:ts[j]? = some s):mvs d (ts.drop j)=(if movN d.ns d.is d.ds s=0 then [] else [movN d.ns d.is d.ds s]) ++ mvs d (ts.drop (j+1)):=by
 obtain ⟨b,rfl⟩:=List.getElem?_eq_some_iff.1 h;rw [List.drop_eq_getElem_cons b];unfold mvs;rw [List.map_cons,List.filter_cons]
 by_cases a:movN d.ns d.is d.ds ts[j]=0
 ·simp [a]
 ·simp [a]
theorem ZgK {d:Wd}{ts:List ByteArray}{j:Nat}(h:ts.length <= j):mvs d (ts.drop j)=[]:=by
 rw [List.drop_eq_nil_of_le h];rfl
def pidL (d:Wd):List Int:=d.hs.map Hm.i ++ wayP d d.ls.length 0
def okP (d:Wd)(p:Int):Bool:=!(decide (p < d.nx)) || decide ((pidL d).count p <= 1)
def oneB (d:Wd):Bool:=(pidL d).all (okP d)
theorem ZiK (d:Wd):oneB d=((d.hs.map Hm.i).all (okP d) && (wayP d d.ls.length 0).all (okP d)):=by
 unfold oneB pidL;rw [List.all_append]
theorem ZgU {l:List Int}:l.Nodup <-> ∀ a,l.count a <= 1:=by
 induction l with
 | nil=>simp
 | cons x l ih =>
  rw [List.nodup_cons,ih];constructor
  ·rintro ⟨b,c⟩ a
   rw [List.count_cons]
   by_cases e:x=a
   ·subst e
    rw [List.count_eq_zero.2 b];simp
   ·have:=c a
    simp [e];exact this
  ·intro h
   refine ⟨fun d=>?_,fun a=>?_⟩
   ·have b:=h x
    rw [List.count_cons] at b;have c:=List.count_pos_iff.2 d;simp only [beq_self_eq_true,if_true] at b;omega
   ·have:=h a
    rw [List.count_cons] at this;omega
theorem ZcV {p:Int -> Bool}{a:Int}(l:List Int):(l.filter p).count a=if p a then l.count a else 0:=by
 by_cases h:p a=true
 ·rw [if_pos h,List.count_filter h]
 ·rw [if_neg h]
  exact List.count_eq_zero.2 (fun b=>h (List.mem_filter.1 b).2)
theorem ZiY (d:Wd):oneB d=true <-> ((pidL d).filter fun x=>!decide (d.nx <= x)).Nodup:=by
 rw [ZgU];unfold oneB;rw [List.all_eq_true];constructor
 ·intro h a
  rw [ZcV];split
  ·rename_i e
   by_cases b:a ∈ pidL d
   ·have:=h a b
    unfold okP at this;simp at e this;omega
   ·rw [List.count_eq_zero.2 b]
    omega
  ·omega
 ·intro h a b
  have:=h a;rw [ZcV] at this;unfold okP
  by_cases c:a < d.nx
  ·have f:(!decide (d.nx <= a))=true:=by simp;omega
   rw [if_pos f] at this;simp [this]
  ·simp [c]
theorem ZeJ {l:List Int}(p:l.Pairwise (· <= ·)):(Lib.compact l).length=l.length <-> l.Nodup:=by
 have b:(Lib.compact l).length=((List.range l.length).filter (Lib.keeps l.toArray)).length:=by
  unfold Lib.compact Lib.compactUpTo;rw [List.length_map]
 have m:=List.length_filter_le (Lib.keeps l.toArray) (List.range l.length);rw [b]
 have d:((List.range l.length).filter (Lib.keeps l.toArray)).length=l.length <-> ∀ j,j < l.length -> Lib.keeps l.toArray j=true:=by
  have:=@List.length_filter_eq_length_iff _ (Lib.keeps l.toArray) (List.range l.length);rw [List.length_range] at this;rw [this];constructor
  ·intro h j a
   exact h j (List.mem_range.2 a)
  ·intro h j a
   exact h j (List.mem_range.1 a)
 rw [d];have k:∀ j,j < l.length -> l.toArray[j]! = l[j]!:=fun j a=>by simp
 constructor
 ·intro h
  rw [List.Nodup,List.pairwise_iff_getElem];intro i j hi a r f;have g:=List.pairwise_iff_getElem.1 p
  have t:l[i] <= l[j - 1]'(by omega):=by
   by_cases e:i=j - 1
   ·subst e;exact Int.le_refl _
   ·exact g i (j - 1) hi (by omega) (by omega)
  have s:l[j - 1]'(by omega) <= l[j]:=g (j - 1) j (by omega) a (by omega);have c:=h j a;unfold Lib.keeps at c;simp only [decide_eq_true_eq] at c;rcases c with c | c
  ·omega
  ·apply c
   have o:l.toArray[j]! = l[j]:=by simp [getElem!_pos,a]
   have q:l.toArray[j - 1]! = l[j - 1]'(by omega):=by rw [getElem!_pos _ _ (by simp;omega)];simp
   rw [o,q];omega
 ·intro h j a
  unfold Lib.keeps;simp only [decide_eq_true_eq]
  by_cases n:j=0
  ·exact Or.inl n
  ·right
   intro f;rw [List.Nodup,List.pairwise_iff_getElem] at h;simp [getElem!_pos,a,show j - 1 < l.length by omega] at f;exact h (j - 1) j (by omega) a (by omega) f.symm
theorem Zmj (d:Wd)(F:List Int)(i:F=(pidL d).filter fun x=>!decide (d.nx <= x)):(((Lib.compact (F.mergeSort fun x y=>decide (x <= y))).length:Int) == (F.length:Int))=oneB d:=by
 have f:=List.mergeSort_perm F (fun x y=>decide (x <= y))
 have j:(F.mergeSort fun x y=>decide (x <= y)).Pairwise (· <= ·):=by
  have:=List.pairwise_mergeSort (le:=fun x y:Int=>decide (x <= y)) (by intro a b c;simp;omega) (by intro a b;simp;omega) F;exact this.imp (by intro a b h;simpa using h)
 have g:=ZeJ j;rw [f.length_eq] at g;have k:(F.mergeSort fun x y=>decide (x <= y)).Nodup <-> F.Nodup:=f.nodup_iff;have e:=ZiY d;rw [<- i] at e;rw [Bool.eq_iff_iff,e,<- k,<- g];simp;omega
end Go.Proofs.YtkpfangkfknhoaaGreatDoor
