"""The ladder of a root, and the fractions of the ladder."""

from rootladder.checks import check_between, check_number, check_root
from rootladder.roots import whole_root

MOST_FRACTIONS = 200


def quotient_round(number, whole):
    """Return the round of number, whose whole root is whole."""
    # What there is, is always (root + add) / over, in whole numbers.
    add = whole
    over = number - whole * whole
    quotients = [(whole + add) // over]
    # Over is 1 just where the round ends: from there on all comes again.
    while over != 1:
        add = quotients[-1] * over - add
        over = (number - add * add) // over
        quotients.append((whole + add) // over)
    return quotients


def climb(quotients):
    """Return the fractions of a ladder that has these quotients."""
    found = []
    above, below = 1, 0
    above_ahead, below_ahead = 0, 1
    for quotient in quotients:
        above, above_ahead = quotient * above + above_ahead, above
        below, below_ahead = quotient * below + below_ahead, below
        found.append((above, below))
    return found


def ladder(number):
    """Return the whole root of number and the list of its round."""
    check_number(number)
    check_root(number)
    whole = whole_root(number)
    return whole, quotient_round(number, whole)


def fractions(number, many=10):
    """Return the first so many fractions of number's ladder, each as (above, below)."""
    check_number(number)
    check_between(many, 0, MOST_FRACTIONS)
    check_root(number)
    whole, quotients = ladder(number)
    rounds = many // len(quotients) + 1
    row = [whole] + quotients * rounds
    return climb(row[:many])
